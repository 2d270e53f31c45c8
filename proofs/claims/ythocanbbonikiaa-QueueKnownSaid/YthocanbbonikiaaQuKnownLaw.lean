/-
  QueueKnown answers true, and turns nothing that was there. No condition.
-/
import Derived.Test.YthocanbbonikiaaQuNoneLaw
import Derived.Test.YthocanbbonikiaaQuOrderLaw
import Derived.Test.YthocanbbonikiaaBytes
namespace Go.Proofs.Ythocanbbonikiaa.queueKnown
open Go.RowKit Go.Proofs.Ythocanbbonikiaa.Base Go.Proofs.Ythocanbbonikiaa.Mem Go.Proofs.Ythocanbbonikiaa.Cr Go.Proofs.Ythocanbbonikiaa.Qu
abbrev nums : Array Value := #[im (-9223372036854775808), im 0, im 1, im 2, im 3, im 5, im 4095, im 4096, im 4097, im 9223372036854775807]
theorem nums_at (j : Nat) (hj : j < 10) : ∃ z : Int, nums[j]? = some (im z) := by
  match j, hj with
  | 0, _ => exact ⟨_, rfl⟩
  | 1, _ => exact ⟨_, rfl⟩
  | 2, _ => exact ⟨_, rfl⟩
  | 3, _ => exact ⟨_, rfl⟩
  | 4, _ => exact ⟨_, rfl⟩
  | 5, _ => exact ⟨_, rfl⟩
  | 6, _ => exact ⟨_, rfl⟩
  | 7, _ => exact ⟨_, rfl⟩
  | 8, _ => exact ⟨_, rfl⟩
  | 9, _ => exact ⟨_, rfl⟩
/-- The numbers, and a row of 5000 bytes, lie in blocks made since w0. -/
structure Ns (w0 : World) (gb lb : Nat) (l : List UInt8) (w : World) : Prop where
  blk : w.heap[gb]? = some (.cells nums 3)
  row : Row w lb l
  len : l.length = 5000
  below : Below w0.heap.size w0 w
theorem Ns.on {w0 w w' : World} {gb lb : Nat} {l : List UInt8} (h : Ns w0 gb lb l w) (hB : Below w.heap.size w w') : Ns w0 gb lb l w' := ⟨stays h.blk hB, h.row.below (by rw [h.len]; decide) hB, h.len, below_on h.below hB⟩
/-- The row of bytes while it is filled. -/
def Fill (w0 : World) (lb : Nat) (w : World) : Prop := ∃ l : List UInt8, l.length = 5000 ∧ Row w lb l ∧ Below w0.heap.size w0 w
theorem Fill.put {w0 w : World} {lb : Nat} (h : Fill w0 lb w) (hl : w0.heap.size ≤ lb) (j : Nat) (hj : j < 5000) (v : Nat) (hv : v < 256) : Fill w0 lb (w.setCell ⟨lb, j, none⟩ (.int .u8 (v : Int))) := by
  obtain ⟨l, h1, h2, h3⟩ := h
  exact ⟨l.set j (UInt8.ofNat v), by rw [List.length_set]; exact h1, h2.put j (by rw [h1]; exact hj) v hv, h3.setCell (p := ⟨lb, j, none⟩) hl _⟩
theorem Fill.cell {w0 w : World} {lb : Nat} (h : Fill w0 lb w) (j : Nat) (hj : j < 5000) : ∃ u : Value, w.cell? ⟨lb, j, none⟩ = some u ∧ w.frozen? ⟨lb, j, none⟩ = false := by
  obtain ⟨l, h1, h2, h3⟩ := h
  exact ⟨_, h2.cell j (by rw [h1]; exact hj), h2.free j (by rw [h1]; exact hj)⟩
theorem fill_new (w : World) : Fill w w.heap.size (w.alloc (.cells (zeroV 5000) 5)) := by
  have hb : (w.alloc (.cells (zeroV 5000) 5)).heap[w.heap.size]? = some (.cells (zeroV 5000) 5) := nest w [_] 0 _ rfl
  refine ⟨List.replicate 5000 0, List.length_replicate, ⟨fun i hi => ?_, fun i _ => free_of hb⟩, nest_below w [_]⟩
  rw [List.length_replicate] at hi
  refine (cell_of hb (v := .int .u8 0) ?_).trans ?_
  · unfold zeroV
    rw [List.getElem?_toArray, List.getElem?_replicate, if_pos hi]
  · rw [List.getD_eq_getElem?_getD, List.getElem?_replicate, if_pos hi]
    rfl
def twelve (l : List Ct) (k : Nat) : Ct := l.getD k ⟨0, ⟨#[]⟩, 0⟩
theorem arg12 {w : World} {b : Nat} {T : TypeId} (c0 c1 c2 c3 c4 c5 c6 c7 c8 c9 c10 c11 : Ct) (h : w.heap[b]? = some (.cells #[im c0.k, .string c0.s, im c0.n, im c1.k, .string c1.s, im c1.n, im c2.k, .string c2.s, im c2.n, im c3.k, .string c3.s, im c3.n, im c4.k, .string c4.s, im c4.n, im c5.k, .string c5.s, im c5.n, im c6.k, .string c6.s, im c6.n, im c7.k, .string c7.s, im c7.n, im c8.k, .string c8.s, im c8.n, im c9.k, .string c9.s, im c9.n, im c10.k, .string c10.s, im c10.n, im c11.k, .string c11.s, im c11.n] T)) :
    ArgS 3 cc CFit w (some ⟨b, 0, none⟩) 12 (twelve [c0, c1, c2, c3, c4, c5, c6, c7, c8, c9, c10, c11]) := by
  refine ⟨fun _ => ⟨_, rfl, lt_heap h⟩, fun _ _ => trivial, fun a ha k hk j hj => ?_⟩
  rw [Option.some.injEq] at ha
  subst ha
  have h1 : ((⟨b, 0, none⟩ : Addr).add (k * 3)).add j = ⟨b, k * 3 + j, none⟩ := by
    rw [add_at, add_off]
  rw [h1]
  match k, hk with
  | 0, _ => match j, hj with
    | 0, _ => exact cell_of (i := 0) h rfl
    | 1, _ => exact cell_of (i := 1) h rfl
    | 2, _ => exact cell_of (i := 2) h rfl
  | 1, _ => match j, hj with
    | 0, _ => exact cell_of (i := 3) h rfl
    | 1, _ => exact cell_of (i := 4) h rfl
    | 2, _ => exact cell_of (i := 5) h rfl
  | 2, _ => match j, hj with
    | 0, _ => exact cell_of (i := 6) h rfl
    | 1, _ => exact cell_of (i := 7) h rfl
    | 2, _ => exact cell_of (i := 8) h rfl
  | 3, _ => match j, hj with
    | 0, _ => exact cell_of (i := 9) h rfl
    | 1, _ => exact cell_of (i := 10) h rfl
    | 2, _ => exact cell_of (i := 11) h rfl
  | 4, _ => match j, hj with
    | 0, _ => exact cell_of (i := 12) h rfl
    | 1, _ => exact cell_of (i := 13) h rfl
    | 2, _ => exact cell_of (i := 14) h rfl
  | 5, _ => match j, hj with
    | 0, _ => exact cell_of (i := 15) h rfl
    | 1, _ => exact cell_of (i := 16) h rfl
    | 2, _ => exact cell_of (i := 17) h rfl
  | 6, _ => match j, hj with
    | 0, _ => exact cell_of (i := 18) h rfl
    | 1, _ => exact cell_of (i := 19) h rfl
    | 2, _ => exact cell_of (i := 20) h rfl
  | 7, _ => match j, hj with
    | 0, _ => exact cell_of (i := 21) h rfl
    | 1, _ => exact cell_of (i := 22) h rfl
    | 2, _ => exact cell_of (i := 23) h rfl
  | 8, _ => match j, hj with
    | 0, _ => exact cell_of (i := 24) h rfl
    | 1, _ => exact cell_of (i := 25) h rfl
    | 2, _ => exact cell_of (i := 26) h rfl
  | 9, _ => match j, hj with
    | 0, _ => exact cell_of (i := 27) h rfl
    | 1, _ => exact cell_of (i := 28) h rfl
    | 2, _ => exact cell_of (i := 29) h rfl
  | 10, _ => match j, hj with
    | 0, _ => exact cell_of (i := 30) h rfl
    | 1, _ => exact cell_of (i := 31) h rfl
    | 2, _ => exact cell_of (i := 32) h rfl
  | 11, _ => match j, hj with
    | 0, _ => exact cell_of (i := 33) h rfl
    | 1, _ => exact cell_of (i := 34) h rfl
    | 2, _ => exact cell_of (i := 35) h rfl
set_option maxHeartbeats 16000000 in
set_option maxRecDepth 100000 in
theorem law (w : World) : Calls Try.prog 6 #[] w fun e w' => e = .returned (.bool true) ∧ Below w.heap.size w w' := by
  have hmk : (Instr.makeSlice 39 (.int .i64 5000) (.int .i64 5000)).run Try.prog w = .ok (.slice (some ⟨w.heap.size, 0, none⟩) 5000 5000) (w.alloc (.cells (zeroV 5000) 5)) := make_zeros 5000 (by decide) w
  have HF : Hid (Fill w w.heap.size (w.alloc (.cells (zeroV 5000) 5))) := Lib.hid (fill_new w)
  have hlt : w.heap.size < (w.alloc (.cells (zeroV 5000) 5)).heap.size := by simp
  generalize w.alloc (.cells (zeroV 5000) 5) = w1 at hmk HF hlt
  go_enter Try.func6, Try.ntmps6
  go_wp2_with fail
  clear hmk
  have HL := Lib.hid (Nat.le_refl w.heap.size)
  obtain ⟨lb, hlb⟩ : ∃ x, w.heap.size = x := ⟨_, rfl⟩
  have HLB := Lib.hid hlb
  rw [hlb] at HF hlt HL ⊢
  clear hlb
  go_loopg [2] 5000 (fun gm s wr => ∃ i : Nat, s = nm i ∧ 5000 - i ≤ gm ∧ i ≤ 5000 ∧ Hid (Fill w lb wr))
  case atStart => exact ⟨0, rfl, by omega, by omega, HF⟩
  case round =>
    clear HF hlt
    obtain ⟨i, rfl, hgi, hi5, HF⟩ := hrel
    by_cases hi : i < 5000
    · have t1 : decide ((i : Int) < 5000) = true := decide_eq_true (by omega)
      have t1b : (i : Int) < 5000 := by omega
      have i0 : (0 : Int) ≤ (i : Int) := by omega
      have vi := wrap_nat (i + 1) (by omega)
      obtain ⟨p, hp⟩ : ∃ p, i * 13 = p := ⟨_, rfl⟩
      have vp : IntKind.i64.wrap ((i : Int) * 13) = (p : Int) := by rw [IntKind.wrap_i64]; omega
      obtain ⟨v, hv⟩ : ∃ v, p % 256 = v := ⟨_, rfl⟩
      have vv : IntKind.u8.wrap (p : Int) = (v : Int) := by rw [IntKind.wrap_u8]; omega
      have v8 : v < 256 := by omega
      obtain ⟨u, hu, hz⟩ := HF.out.cell i hi
      clear hp hv
      have HF2 : Hid (Fill w lb (wr.setCell ⟨lb, i, none⟩ (.int .u8 (v : Int)))) := Lib.hid (HF.out.put (by rw [HLB.out]; exact Nat.le_refl _) i hi v v8)
      go_wp2
      go_roundg (5000 - (i + 1))
      case measure => omega
      case rel => exact ⟨i + 1, by first | rfl | go_num, Nat.le_refl _, by omega, HF2⟩
    · have t1 : decide ((i : Int) < 5000) = false := decide_eq_false (by omega)
      have t1b : ¬ (i : Int) < 5000 := by omega
      go_wp2_with fail
      have HG : Hid (∃ l : List UInt8, Ns w wr.heap.size lb l (wr.alloc (.cells nums 3))) := Lib.hid (by
        obtain ⟨l, h1, h2, h3⟩ := HF.out
        exact ⟨l, nest wr [_] 0 _ rfl, h2.below (by rw [h1]; decide) (nest_below wr [_]), h1, below_on h3 (nest_below wr [_])⟩)
      clear HF
      obtain ⟨l, hG⟩ := HG.out
      have HN := Lib.hid hG
      clear hG HG
      generalize wr.heap.size = gb at HN ⊢
      generalize wr.alloc (.cells nums 3) = w2 at HN ⊢
      have HK : Hid ((⟨l.toArray⟩ : ByteArray) = ⟨l.toArray⟩) := Lib.hid rfl
      obtain ⟨lg, hlg⟩ : ∃ x : ByteArray, ⟨l.toArray⟩ = x := ⟨_, rfl⟩
      have HV : Hid (∀ w' : World, Ns w gb lb l w' → (convert 39 9 (.slice (some ⟨lb, 0, none⟩) 5000 5000)).run Try.prog w' = .ok (.string lg) w') := Lib.hid fun w' h => by rw [← hlg]; exact h.row.conv 5000 5000 h.len
      clear hlg HK
      go_loopg [22] 10 (fun gm s wr => ∃ i : Nat, s = nm i ∧ 10 - i ≤ gm ∧ i ≤ 10 ∧ Hid (Ns w gb lb l wr))
      case atStart => exact ⟨0, rfl, by omega, by omega, HN⟩
      case round =>
        clear HN
        obtain ⟨i, rfl, hgi, hi9, HN⟩ := hrel
        by_cases hi : i < 10
        · have t1 : decide ((i : Int) < 10) = true := decide_eq_true (by omega)
          have t1b : (i : Int) < 10 := by omega
          have i0 : (0 : Int) ≤ (i : Int) := by omega
          have vi := wrap_nat (i + 1) (by omega)
          obtain ⟨rz, hzi⟩ := nums_at i hi
          have cz := cell_of HN.out.blk hzi
          clear hzi
          go_wp2_with fail
          clear cz
          go_loopg [5] 9 (fun gm s wr => ∃ x : Int, s = im x ∧ (8 - x).toNat ≤ gm ∧ -1 ≤ x ∧ x ≤ 8 ∧ Hid (Ns w gb lb l wr))
          case atStart => exact ⟨-1, rfl, by omega, by omega, by omega, HN⟩
          case round =>
            clear HN
            obtain ⟨x, rfl, hgx, hx0, hx8, HN⟩ := hrel
            by_cases hx : x < 8
            · have t2 : decide (x < 8) = true := decide_eq_true hx
              obtain ⟨y, hy⟩ : ∃ y, x + 1 = y := ⟨_, rfl⟩
              have vy : IntKind.i64.wrap (x + 1) = y := by rw [IntKind.wrap_i64]; omega
              obtain ⟨z, hz⟩ : ∃ z, x * 700 = z := ⟨_, rfl⟩
              have vz : IntKind.i64.wrap (x * 700) = z := by rw [IntKind.wrap_i64]; omega
              have HY := Lib.hid hy
              have hcv := HV.out _ HN.out
              clear hy hz
              go_wp2_with fail
              have HA := Lib.hid (arg12 (w := wr.alloc (.cells #[im 0, .string ⟨#[97, 98, 99]⟩, im 0, im 2, .string ⟨#[]⟩, im x, im 0, .string ⟨#[100, 101, 102, 103]⟩, im 0, im 4, .string ⟨#[]⟩, im x, im 2, .string ⟨#[]⟩, im 1, im 0, .string lg, im 0, im 3, .string ⟨#[]⟩, im z, im 0, .string ⟨#[120, 121, 122]⟩, im 0, im 5, .string ⟨#[]⟩, im x, im 0, .string lg, im 0, im 2, .string ⟨#[]⟩, im 9223372036854775807, im 2, .string ⟨#[]⟩, im (-9223372036854775808)] 31)) (T := _) ⟨0, ⟨#[97, 98, 99]⟩, 0⟩ ⟨2, ⟨#[]⟩, x⟩ ⟨0, ⟨#[100, 101, 102, 103]⟩, 0⟩ ⟨4, ⟨#[]⟩, x⟩ ⟨2, ⟨#[]⟩, 1⟩ ⟨0, lg, 0⟩ ⟨3, ⟨#[]⟩, z⟩ ⟨0, ⟨#[120, 121, 122]⟩, 0⟩ ⟨5, ⟨#[]⟩, x⟩ ⟨0, lg, 0⟩ ⟨2, ⟨#[]⟩, 9223372036854775807⟩ ⟨2, ⟨#[]⟩, (-9223372036854775808)⟩ (nest wr [_] 0 _ rfl))
              have HN2 : Hid (Ns w gb lb l (wr.alloc (.cells #[im 0, .string ⟨#[97, 98, 99]⟩, im 0, im 2, .string ⟨#[]⟩, im x, im 0, .string ⟨#[100, 101, 102, 103]⟩, im 0, im 4, .string ⟨#[]⟩, im x, im 2, .string ⟨#[]⟩, im 1, im 0, .string lg, im 0, im 3, .string ⟨#[]⟩, im z, im 0, .string ⟨#[120, 121, 122]⟩, im 0, im 5, .string ⟨#[]⟩, im x, im 0, .string lg, im 0, im 2, .string ⟨#[]⟩, im 9223372036854775807, im 2, .string ⟨#[]⟩, im (-9223372036854775808)] 31))) := Lib.hid (HN.out.on (nest_below wr [_]))
              clear HN hcv
              generalize wr.alloc (.cells #[im 0, .string ⟨#[97, 98, 99]⟩, im 0, im 2, .string ⟨#[]⟩, im x, im 0, .string ⟨#[100, 101, 102, 103]⟩, im 0, im 4, .string ⟨#[]⟩, im x, im 2, .string ⟨#[]⟩, im 1, im 0, .string lg, im 0, im 3, .string ⟨#[]⟩, im z, im 0, .string ⟨#[120, 121, 122]⟩, im 0, im 5, .string ⟨#[]⟩, im x, im 0, .string lg, im 0, im 2, .string ⟨#[]⟩, im 9223372036854775807, im 2, .string ⟨#[]⟩, im (-9223372036854775808)] 31) = w3 at HA HN2 ⊢
              generalize wr.heap.size = cb at HA ⊢
              refine (queuePlays.all rz _ 12 12 _ (by unfold maxLen; omega) w3 HA.out).mono ?_
              rintro _ w4 ⟨rfl, hb⟩
              have HN3 := Lib.hid (HN2.out.on hb)
              have HA3 := Lib.hid (HA.out.below hb)
              clear hb HN2 HA
              go_wp2_with fail
              refine (queueOrder.all rz _ 12 12 _ (by unfold maxLen; omega) w4 HA3.out).mono ?_
              rintro _ w5 ⟨rfl, hb⟩
              have HN4 := Lib.hid (HN3.out.on hb)
              clear hb HN3 HA3
              go_wp2_with fail
              refine (queueNone.all _ x w5).mono ?_
              rintro _ w6 ⟨rfl, hb⟩
              have HN5 := Lib.hid (HN4.out.on hb)
              clear hb HN4
              go_wp2
              go_roundg (8 - y).toNat
              case measure => have := HY.out; omega
              case rel => exact ⟨y, by first | rfl | go_num, Nat.le_refl _, by have := HY.out; omega, by have := HY.out; omega, HN5⟩
            · have t2 : decide (x < 8) = false := decide_eq_false hx
              go_wp2
              go_roundg (10 - (i + 1))
              case measure => omega
              case rel => exact ⟨i + 1, by first | rfl | go_num, Nat.le_refl _, by omega, HN⟩
        · have t1 : decide ((i : Int) < 10) = false := decide_eq_false (by omega)
          have t1b : ¬ (i : Int) < 10 := by omega
          go_wp2_with fail
          refine (fworks wr).mono ?_
          rintro _ w3 ⟨rfl, hb⟩
          have HG3 := Lib.hid (HN.out.on hb)
          clear hb HN
          go_wp2
          go_ret
          exact ⟨rfl, HG3.out.below⟩
end Go.Proofs.Ythocanbbonikiaa.queueKnown

/-
  BufferKnown answers true, and turns nothing that was there. No condition.
-/
import Derived.Test.YtjhkjnammpblgaaBfPlaysLaw
import Derived.Test.YtjhkjnammpblgaaBfKeepsLaw
import Derived.Test.YtjhkjnammpblgaaBfMarksLaw
namespace Go.Proofs.Ytjhkjnammpblgaa.bufferKnown
open Go.RowKit Go.Proofs.Ytjhkjnammpblgaa.Base Go.Proofs.Ytjhkjnammpblgaa.Mem Go.Proofs.Ytjhkjnammpblgaa.Cr Go.Proofs.Ytjhkjnammpblgaa.Bf
abbrev CT : TypeId := 30
abbrev nums : Array Value := #[im (-9223372036854775808), im (-1), im 0, im 1, im 2, im 3, im 5, im 7, im 12, im 4095, im 4096, im 4097, im 9223372036854775807]
theorem nums_at (j : Nat) (hj : j < 13) : ∃ z : Int, nums[j]? = some (im z) := by
  match j, hj with
  | 0, _ => exact ⟨_, rfl⟩
  | 1, _ => exact ⟨_, rfl⟩
  | 2, _ => exact ⟨_, rfl⟩
  | 3, _ => exact ⟨_, rfl⟩
  | 4, _ => exact ⟨_, rfl⟩
  | 5, _ => exact ⟨_, rfl⟩
  | 6, _ => exact ⟨_, rfl⟩
  | 7, _ => exact ⟨_, rfl⟩
  | 8, _ => exact ⟨_, rfl⟩
  | 9, _ => exact ⟨_, rfl⟩
  | 10, _ => exact ⟨_, rfl⟩
  | 11, _ => exact ⟨_, rfl⟩
  | 12, _ => exact ⟨_, rfl⟩
theorem eltC : Elt 30 22 3 cc :=
  ⟨Try.underlying22, ⟨.agg #[.bool false, .int .i64 0, .string ⟨#[]⟩], 32, by kernel_rfl, rfl, by decide⟩, fun _ => rfl, fun x u hu => by
    simp only [cc, List.mem_cons, List.not_mem_nil, or_false] at hu
    rcases hu with rfl | rfl | rfl <;> rfl, by decide⟩
theorem rowC (w : World) (y : Ct) : ∀ j, j < 3 → (w.alloc (.cells #[.bool y.g, im y.n, .string y.s] CT (0, 0))).cell? ⟨w.heap.size, j, none⟩ = (cc y)[j]? := by
  intro j hj
  have hb : (w.alloc (.cells #[.bool y.g, im y.n, .string y.s] CT (0, 0))).heap[w.heap.size]? = some (.cells #[.bool y.g, im y.n, .string y.s] CT (0, 0)) := nest w [_] 0 _ rfl
  match j, hj with
  | 0, _ => exact cell_of hb rfl
  | 1, _ => exact cell_of hb rfl
  | 2, _ => exact cell_of hb rfl
/-- The calls, in memory of the call's own. -/
structure Cl (w0 : World) (v : Value) (l : List Ct) (w : World) : Prop where
  own : OwnS CT 3 cc w w0.heap.size v l
  below : Below w0.heap.size w0 w
theorem Cl.next {w0 w w' : World} {v v' : Value} {l : List Ct} {y : Ct} (h : Cl w0 v l w) (o : Obj) (ho : OwnS CT 3 cc w' w0.heap.size v' (l ++ [y])) (hg : (w.alloc o).grownBy w' v.ownBlock) : Cl w0 v' (l ++ [y]) w' := by
  have hb := h.below.alloc h.below.size o
  exact ⟨ho, (Chg.of_grown (S := fun k => v.ownBlock = some k) hg (fun k e => e)).below hb hb.size (fun k hk => (h.own.lt k hk).1)⟩
def callAt (l : List Ct) (k : Nat) : Ct := l.getD k ⟨false, 0, ⟨#[]⟩⟩
theorem Cl.arg {w0 w : World} {v : Value} {l : List Ct} (h : Cl w0 v l w) (hl : l.length = 90) : ∃ g cap, v = .slice (some ⟨g, 0, none⟩) 90 cap ∧ ArgS 3 cc CFit w (some ⟨g, 0, none⟩) 90 (callAt l) := by
  rcases h.own.shape with ⟨_, rfl⟩ | ⟨g, cap, rfl, _⟩
  · simp at hl
  · rw [hl]
    refine ⟨g, cap, rfl, fun _ => ⟨_, rfl, (h.own.lt g rfl).2⟩, fun _ _ => trivial, fun a ha k hk j hj => ?_⟩
    rw [Option.some.injEq] at ha
    subst ha
    rw [Mem.add_at, add_off, Nat.mul_comm]
    have hk2 : k < l.length := by omega
    have e : l[k]? = some (callAt l k) := by
      unfold callAt
      rw [List.getD_eq_getElem?_getD, List.getElem?_eq_getElem hk2]
      rfl
    exact OwnS.cell (fc := cc) (z := 3) (fun _ => rfl) h.own k _ e j hj
/-- The numbers and the calls lie in memory. -/
structure Ns (w0 : World) (gb : Nat) (oa : Option Addr) (F : Nat → Ct) (w : World) : Prop where
  blk : w.heap[gb]? = some (.cells nums 3)
  arg : ArgS 3 cc CFit w oa 90 F
  below : Below w0.heap.size w0 w
theorem Ns.on {w0 w w' : World} {gb : Nat} {oa : Option Addr} {F : Nat → Ct} (h : Ns w0 gb oa F w) (hB : Below w.heap.size w w') : Ns w0 gb oa F w' := ⟨stays h.blk hB, h.arg.below hB, below_on h.below hB⟩
theorem Ns.drewN {w0 w : World} {gb : Nat} {oa : Option Addr} {F : Nat → Ct} (h : Ns w0 gb oa F w) (n : Nat) : Ns w0 gb oa F (w.drewN n) := h.on ⟨rfl, rfl, rfl, Nat.le_refl _, fun _ _ => rfl⟩
theorem u16_ok (x : Int) : 0 ≤ IntKind.u16.wrap x ∧ IntKind.u16.wrap x ≤ 65535 := by rw [IntKind.wrap_u16]; omega
set_option maxHeartbeats 16000000 in
set_option maxRecDepth 100000 in
theorem law (w : World) : Calls Try.prog 6 #[] w fun e w' => e = .returned (.bool true) ∧ Below w.heap.size w w' := by
  have HC : Hid (Cl w (.slice none 0 0) [] w) := Lib.hid ⟨ownS_nil _ _, Below.refl _ _⟩
  go_enter Try.func6, Try.ntmps6
  go_wp2_with fail
  go_loopg [1, 2] 90 (fun gm v s2 wr => ∃ (i : Nat) (lc : List Ct), s2 = nm i ∧ 90 - i ≤ gm ∧ i ≤ 90 ∧ Hid (lc.length = i) ∧ Hid (Cl w v lc wr))
  case atStart => exact ⟨0, [], rfl, by omega, by omega, Lib.hid rfl, HC⟩
  case round =>
    obtain ⟨i, lc, rfl, hgi, hi9, HLN, HC⟩ := hrel
    by_cases hi : i < 90
    · have t1 : decide ((i : Int) < 90) = true := decide_eq_true (by omega)
      have t1b : (i : Int) < 90 := by omega
      have vi := wrap_nat (i + 1) (by omega)
      obtain ⟨a, ha⟩ : ∃ a, (i : Int).tmod 3 = a := ⟨_, rfl⟩
      have va : IntKind.i64.wrap a = a := by rw [IntKind.wrap_i64]; rw [Int.tmod_eq_emod_of_nonneg (by omega)] at ha; omega
      obtain ⟨g, hg⟩ : ∃ g, (a == 1) = g := ⟨_, rfl⟩
      obtain ⟨p5, hp5⟩ : ∃ p, i * 5 = p := ⟨_, rfl⟩
      have v5 : IntKind.i64.wrap ((i : Int) * 5) = (p5 : Int) := by rw [IntKind.wrap_i64]; omega
      obtain ⟨q5, hq5⟩ : ∃ q, (p5 : Int).tmod 11 = q := ⟨_, rfl⟩
      have w5 : IntKind.i64.wrap q5 = q5 := by rw [IntKind.wrap_i64]; rw [Int.tmod_eq_emod_of_nonneg (by omega)] at hq5; omega
      obtain ⟨p7, hp7⟩ : ∃ p, i * 7 = p := ⟨_, rfl⟩
      have v7 : IntKind.i64.wrap ((i : Int) * 7) = (p7 : Int) := by rw [IntKind.wrap_i64]; omega
      obtain ⟨q7, hq7⟩ : ∃ q : Nat, (p7 : Int).tmod 11 = (q : Int) := ⟨p7 % 11, by rw [Int.tmod_eq_emod_of_nonneg (by omega)]; omega⟩
      have b7 : q7 ≤ 10 := by rw [Int.tmod_eq_emod_of_nonneg (by omega)] at hq7; omega
      have w7 : IntKind.i64.wrap (q7 : Int) = (q7 : Int) := by rw [IntKind.wrap_i64]; omega
      have c7 : (0 : Int) ≤ (q7 : Int) := by omega
      have d7 : (q7 : Int) ≤ 10 := by omega
      obtain ⟨s, hs⟩ : ∃ s : ByteArray, (⟨#[97, 98, 99, 100, 101, 102, 103, 104, 105, 106]⟩ : ByteArray).extract 0 q7 = s := ⟨_, rfl⟩
      have O2 : Hid (OwnS CT 3 cc (wr.alloc (.cells #[.bool g, im q5, .string s] CT (0, 0))) w.heap.size u1 lc) := Lib.hid (HC.out.own.alloc _)
      have HSZ : Hid (w.heap.size ≤ (wr.alloc (.cells #[.bool g, im q5, .string s] CT (0, 0))).heap.size) := Lib.hid (by have := HC.out.below.size; simp; omega)
      clear hp5 hp7
      go_wp2_with (first | (at_builtin; refine wpList_append_elt eltC _ rfl _ _ rfl w.heap.size u1 rfl lc O2.out wr.heap.size 1 rfl ⟨g, q5, s⟩ (rowC wr ⟨g, q5, s⟩) (by have := HLN.out; omega) HSZ.out ?_; intro v4 w4 hown hgrow hat; have HC2 := Lib.hid (HC.out.next _ hown hgrow); clear hown hgrow hat))
      go_roundg (90 - (i + 1))
      case measure => omega
      case rel => exact ⟨i + 1, lc ++ [⟨g, q5, s⟩], by first | rfl | go_num, Nat.le_refl _, by omega, Lib.hid (by rw [List.length_append, HLN.out]; rfl), HC2⟩
    · have t1 : decide ((i : Int) < 90) = false := decide_eq_false (by omega)
      have t1b : ¬ (i : Int) < 90 := by omega
      obtain ⟨g, cap, rfl, hA⟩ := HC.out.arg (by have := HLN.out; omega)
      have HB := Lib.hid HC.out.below
      have HA := Lib.hid hA
      clear hA HC
      generalize callAt lc = F at HA
      go_wp2_with fail
      have HN : Hid (Ns w wr.heap.size (some ⟨g, 0, none⟩) F (wr.alloc (.cells nums 3))) := Lib.hid ⟨nest wr [_] 0 _ rfl, HA.out.below (nest_below wr [_]), below_on HB.out (nest_below wr [_])⟩
      clear HA HB
      generalize wr.heap.size = gb at HN ⊢
      generalize wr.alloc (.cells nums 3) = w2 at HN ⊢
      go_loopg [26] 13 (fun gm s wr2 => ∃ j : Nat, s = nm j ∧ 13 - j ≤ gm ∧ j ≤ 13 ∧ Hid (Ns w gb (some ⟨g, 0, none⟩) F wr2))
      case atStart => exact ⟨0, rfl, by omega, by omega, HN⟩
      case round =>
        clear HN
        obtain ⟨j, rfl, hgj, hj9, HN⟩ := hrel
        by_cases hj : j < 13
        · have t2 : decide ((j : Int) < 13) = true := decide_eq_true (by omega)
          have t2b : (j : Int) < 13 := by omega
          have j0 : (0 : Int) ≤ (j : Int) := by omega
          have vj := wrap_nat (j + 1) (by omega)
          obtain ⟨rz, hzi⟩ := nums_at j hj
          have cz := cell_of HN.out.blk hzi
          obtain ⟨m1, hu1⟩ : ∃ u, IntKind.u16.wrap rz = u := ⟨_, rfl⟩
          have HU1 : Hid (0 ≤ m1 ∧ m1 ≤ 65535) := Lib.hid (hu1 ▸ u16_ok rz)
          obtain ⟨hz, hhz⟩ : ∃ u, IntKind.i64.wrap (rz.tdiv 2) = u := ⟨_, rfl⟩
          obtain ⟨u2, hu2⟩ : ∃ u, IntKind.u16.wrap hz = u := ⟨_, rfl⟩
          have HU2 : Hid (0 ≤ u2 ∧ u2 ≤ 65535) := Lib.hid (hu2 ▸ u16_ok hz)
          have hmx : Hid (90 ≤ maxLen) := Lib.hid (by unfold maxLen; omega)
          clear hzi
          go_wp2_with fail
          refine (bufferPlays.all rz 1 _ 90 cap F hmx.out _ HN.out.arg).mono ?_
          rintro _ w3 ⟨rfl, hb⟩
          have HN2 := Lib.hid (HN.out.on hb)
          clear hb HN cz
          go_wp2_with fail
          refine (bufferPlays.all rz 0 _ 90 cap F hmx.out _ HN2.out.arg).mono ?_
          rintro _ w4 ⟨rfl, hb⟩
          have HN3 := Lib.hid (HN2.out.on hb)
          clear hb HN2
          go_wp2_with fail
          refine (bufferPlays.all 9 rz _ 90 cap F hmx.out _ HN3.out.arg).mono ?_
          rintro _ w5 ⟨rfl, hb⟩
          have HN4 := Lib.hid (HN3.out.on hb)
          clear hb HN3
          go_wp2_with fail
          refine (bufferKeeps.all m1 HU1.out _ 90 cap F hmx.out _ HN4.out.arg).mono ?_
          rintro _ w6 ⟨rfl, hb⟩
          have HN5 := Lib.hid (HN4.out.on hb)
          clear hb HN4
          go_wp2_with fail
          refine (bufferMarks.all m1 HU1.out u2 HU2.out _ 90 cap F hmx.out _ HN5.out.arg).mono ?_
          rintro _ w7 ⟨rfl, hb⟩
          have HN6 := Lib.hid (HN5.out.on hb)
          clear hb HN5
          go_wp2
          go_roundg (13 - (j + 1))
          case measure => omega
          case rel => exact ⟨j + 1, by first | rfl | go_num, Nat.le_refl _, by omega, HN6⟩
        · have t2 : decide ((j : Int) < 13) = false := decide_eq_false (by omega)
          have t2b : ¬ (j : Int) < 13 := by omega
          have C1 := Lib.hid (fun w => fput_nil ⟨#[97]⟩ w)
          have C2 := Lib.hid (fun w => fget_nil 1 w)
          have C3 := Lib.hid flen_nil
          have C4 := Lib.hid ffree_nil
          go_wp2_with (first
            | (go_at_call 13; ((with_reducible refine (C1.out _).mono ?_); rintro e v ⟨rfl, rfl⟩))
            | (go_at_call 11; ((with_reducible refine (C2.out _).mono ?_); rintro e v ⟨rfl, rfl⟩))
            | (go_at_call 17; ((with_reducible refine (C3.out _).mono ?_); rintro e v ⟨rfl, rfl⟩))
            | (go_at_call 16; ((with_reducible refine (C4.out _).mono ?_); rintro e v ⟨rfl, rfl⟩)))
          refine (fhigh_nil _).mono ?_
          rintro _ w3 ⟨rfl, n1, rfl⟩
          have HN2 := Lib.hid (HN.out.drewN n1)
          clear HN
          generalize wr.drewN n1 = w3 at HN2 ⊢
          go_wp2_with fail
          refine (flow_nil _).mono ?_
          rintro _ w4 ⟨rfl, n2, rfl⟩
          have HN3 := Lib.hid (HN2.out.drewN n2)
          clear HN2
          generalize w3.drewN n2 = w4 at HN3 ⊢
          go_wp2_with fail
          refine (fworks w4).mono ?_
          rintro _ w5 ⟨rfl, hb⟩
          have HN4 := Lib.hid (HN3.out.on hb)
          clear hb HN3
          go_wp2
          go_ret
          exact ⟨rfl, HN4.out.below⟩
end Go.Proofs.Ytjhkjnammpblgaa.bufferKnown

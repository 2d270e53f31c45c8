/-
  WheelKnown answers true, and turns nothing that was there. No condition.
-/
import Derived.Test.YtcadeoolacoidaaWhSlotsLaw
import Derived.Deep.Grids
namespace Go.Proofs.Ytcadeoolacoidaa.wheelKnown
open Go.RowKit Go.Proofs.Ytcadeoolacoidaa.Base Go.Proofs.Ytcadeoolacoidaa.Mem Go.Proofs.Ytcadeoolacoidaa.Wh
open Go.Proofs.Ytcadeoolacoidaa.Srt (wrap_nat)
open Go.Proofs.Ytcadeoolacoidaa.wheelDue (mem_due)
theorem eltC : Elt 30 22 3 cc where
  under := Try.underlying22
  info := ⟨.agg #[.int .u8 0, .int .u8 0, .int .i64 0], 16, by kernel_rfl, rfl, by decide⟩
  len := fun _ => rfl
  one := fun x u hu => by
    simp only [cc, List.mem_cons, List.not_mem_nil, or_false] at hu
    rcases hu with rfl | rfl | rfl <;> rfl
  pos := by decide
section
variable {α : Type} {E S z : Nat} {fc : α → List Value}
theorem run_append_two (he : Elt E S z fc) (w : World) (ty base : Nat) (v : Value) (l : List α) (h : OwnS E z fc w base v l) (b c : Nat) (x y : α) (hrow : ∀ j, j < 2 * z → w.cell? ⟨b, j, none⟩ = (fc x ++ fc y)[j]?) (hz : l.length + 2 ≤ 1000000) (hb : base ≤ w.heap.size) :
    ∃ v' w', (Builtin.append_ #[S, S] ty #[v, .slice (some ⟨b, 0, none⟩) 2 c]).run Try.prog w = .ok v' w' ∧ OwnS E z fc w' base v' (l ++ [x, y]) ∧ w.grownBy w' v.ownBlock := by
  obtain ⟨zero, bytes, hinfo, hzc, hby⟩ := he.info
  obtain ⟨i, hi, hz0, hz1, hz2⟩ := info_parts hinfo
  have hl : (fc x ++ fc y).length = 2 * z := by rw [List.length_append, he.len, he.len]; omega
  have hnews : ∀ j u, (fc x ++ fc y)[j]? = some u → w.cell? ((⟨b, 0, none⟩ : Addr).add j) = some u := by
    intro j u hu
    have hj : j < 2 * z := by rw [← hl]; exact (List.getElem?_eq_some_iff.1 hu).1
    rw [add_at, hrow j hj, hu]
  have h1 : ∀ u ∈ fc x ++ fc y, u.oneCell' = true := fun u hu => by
    rcases List.mem_append.1 hu with hu | hu
    · exact he.one x u hu
    · exact he.one y u hu
  have hb1 : (l.length + 2) * bytes ≤ 140737488355328 := Nat.le_trans (Nat.mul_le_mul hz hby) (by decide)
  obtain ⟨v', w', hr, ho, hg, _⟩ := run_append_own (P := Try.prog) w base S ty E i zero z bytes he.under hi hz0 hz1 hz2 hzc he.pos v l.length (l.flatMap fc) h ⟨b, 0, none⟩ 2 c (fc x ++ fc y) hl hnews h1 (by unfold maxLen; omega) hb1 hb
  refine ⟨v', w', hr, ?_, hg⟩
  unfold OwnS
  rw [List.length_append, List.flatMap_append]
  simpa using ho
theorem wpList_append_two (he : Elt E S z fc) {ops : Array Oper} {rest : List Oper} {o : Oper} {a : Act} {Q : Exit → Act → World → Prop} (w : World) (hgd : o.guard = none) (s x : Operand)
    (hop : o.op = .call { callee := .builtin .append, args := #[s, x], argTypes := #[S, S] })
    (base : Nat) (v : Value) (hs : a.eval s = v) (l : List α) (hown : OwnS E z fc w base v l) (b c : Nat) (hx : a.eval x = .slice (some ⟨b, 0, none⟩) 2 c) (y y' : α) (hrow : ∀ j, j < 2 * z → w.cell? ⟨b, j, none⟩ = (fc y ++ fc y')[j]?) (hz : l.length + 2 ≤ 1000000) (hb : base ≤ w.heap.size)
    (h : ∀ v' w', OwnS E z fc w' base v' (l ++ [y, y']) → w.grownBy w' v.ownBlock → wpList Try.prog ops Q rest (a.put o.dst v') w') : wpList Try.prog ops Q (o :: rest) a w :=
  wpList_plain hgd fun _ hK => by
    obtain ⟨v', w', hr, h2, h3⟩ := run_append_two he w o.type base v l hown b c y y' hrow hz hb
    unfold Oper.wp execOp
    simp only [hop, resolve, invoke, builtin, Sem.run_bind, Sem.run_pure, Result.andThen_ok, List.map_toArray, List.map_cons, List.map_nil, hs, hx, hr]
    exact hK _ _ (h v' w' h2 h3)
/-- The first m of what the call made itself, as an argument. -/
theorem args_of {P : α → Prop} (hl : ∀ x, (fc x).length = z) {w : World} {base cap n m : Nat} {oa : Option Addr} {l : List α} (h : OwnS E z fc w base (.slice oa n cap) l) (hP : ∀ x ∈ l, P x) (d : α) (hm : m ≤ l.length) : ArgS z fc P w oa m (fun k => (l[k]?).getD d) := by
  have hk : ∀ k, k < m → ∃ x, l[k]? = some x := fun k hk => ⟨l[k]'(by omega), List.getElem?_eq_getElem _⟩
  rcases h.2 with ⟨hv, h0⟩ | ⟨g, cap', cur, hv, hbg, hg, _⟩
  · exact ⟨fun h5 => by omega, fun k h5 => by omega, fun a ha k h5 => by omega⟩
  · injection hv with h1 h2 h3
    subst h1
    refine ⟨fun _ => ⟨_, rfl, lt_heap hg⟩, fun k h5 => ?_, fun a ha k h5 j hj => ?_⟩
    · obtain ⟨x, hx⟩ := hk k h5
      rw [hx]
      exact hP x (List.mem_of_getElem? hx)
    · obtain ⟨x, hx⟩ := hk k h5
      rw [Option.some.injEq] at ha
      subst ha
      rw [hx, add_at, add_off, Nat.mul_comm k z]
      exact OwnS.cell hl h k x hx j hj
end
/-- What each round appends. -/
def it (i : Nat) : List Cl := [⟨i, i * 7 % 5, ((i * i * 3 + 1) % 23 : Nat)⟩, ⟨2, i % 5, 0⟩]
def lst : Nat → List Cl
  | 0 => []
  | k + 1 => lst k ++ it k
theorem lst_len : ∀ k, (lst k).length = 2 * k
  | 0 => rfl
  | k + 1 => by rw [lst, List.length_append, lst_len k]; show 2 * k + 2 = _; omega
theorem lst_fits : ∀ k, k ≤ 60 → ∀ x ∈ lst k, Fits x
  | 0, _, x, hx => by cases hx
  | k + 1, hk, x, hx => by
    rcases List.mem_append.1 hx with hx | hx
    · exact lst_fits k (by omega) x hx
    · simp only [it, List.mem_cons, List.not_mem_nil, or_false] at hx
      rcases hx with rfl | rfl
      · exact ⟨(by omega : k < 256), (by omega : k * 7 % 5 < 256)⟩
      · exact ⟨(by decide : 2 < 256), (by omega : k % 5 < 256)⟩
theorem row6 (w : World) (a b c d : Nat) (N : Int) (t : TypeId) : ∀ j, j < 2 * 3 → (w.alloc (.cells #[.int .u8 (a : Int), .int .u8 (b : Int), .int .i64 N, .int .u8 (c : Int), .int .u8 (d : Int), .int .i64 0] t)).cell? ⟨w.heap.size, j, none⟩ = (cc ⟨a, b, N⟩ ++ cc ⟨c, d, 0⟩)[j]? := fun j hj => by
  have h := nest w [.cells #[.int .u8 (a : Int), .int .u8 (b : Int), .int .i64 N, .int .u8 (c : Int), .int .u8 (d : Int), .int .i64 0] t] 0 _ rfl
  match j, hj with
  | 0, _ => exact cell_of h rfl
  | 1, _ => exact cell_of h rfl
  | 2, _ => exact cell_of h rfl
  | 3, _ => exact cell_of h rfl
  | 4, _ => exact cell_of h rfl
  | 5, _ => exact cell_of h rfl
abbrev O13 : Obj := .cells #[.int .i64 (-9223372036854775808), .int .i64 (-1), .int .i64 0, .int .i64 1, .int .i64 2, .int .i64 3, .int .i64 7, .int .i64 8, .int .i64 64, .int .i64 255, .int .i64 256, .int .i64 257, .int .i64 9223372036854775807] 3
theorem at13 {w : World} {b : Nat} (h : w.heap[b]? = some O13) (j : Nat) (hj : j < 13) : ∃ x : Int, (-9223372036854775808 ≤ x ∧ x ≤ 9223372036854775807) ∧ w.cell? ⟨b, j, none⟩ = some (.int .i64 x) := by
  match j, hj with
  | 0, _ => exact ⟨-9223372036854775808, by decide, cell_of h rfl⟩
  | 1, _ => exact ⟨-1, by decide, cell_of h rfl⟩
  | 2, _ => exact ⟨0, by decide, cell_of h rfl⟩
  | 3, _ => exact ⟨1, by decide, cell_of h rfl⟩
  | 4, _ => exact ⟨2, by decide, cell_of h rfl⟩
  | 5, _ => exact ⟨3, by decide, cell_of h rfl⟩
  | 6, _ => exact ⟨7, by decide, cell_of h rfl⟩
  | 7, _ => exact ⟨8, by decide, cell_of h rfl⟩
  | 8, _ => exact ⟨64, by decide, cell_of h rfl⟩
  | 9, _ => exact ⟨255, by decide, cell_of h rfl⟩
  | 10, _ => exact ⟨256, by decide, cell_of h rfl⟩
  | 11, _ => exact ⟨257, by decide, cell_of h rfl⟩
  | 12, _ => exact ⟨9223372036854775807, by decide, cell_of h rfl⟩
theorem due_none {f : Nat → Nat} (h : ∀ k, k < 256 → f k ≠ 1) : dueOf f = [] :=
  List.filter_eq_nil_iff.2 fun k hk => by
    rw [decide_eq_true_eq]
    exact h k (List.mem_range.1 hk)
theorem due_all {f : Nat → Nat} (h : ∀ k, k < 256 → f k = 1) : dueOf f = List.range 256 :=
  List.filter_eq_self.2 fun k hk => by
    rw [decide_eq_true_eq]
    exact h k (List.mem_range.1 hk)
theorem cnt_none {f : Nat → Nat} (h : ∀ k, k < 256 → f k = 0) : cnt f = 0 := by
  unfold cnt
  rw [List.length_eq_zero_iff]
  refine List.filter_eq_nil_iff.2 fun k hk => ?_
  rw [decide_eq_true_eq, h k (List.mem_range.1 hk)]
  decide
set_option maxHeartbeats 16000000 in
set_option maxRecDepth 100000 in
theorem law (w : World) :
    Calls Try.prog 6 #[] w fun e w' => e = .returned (.bool true) ∧ Below w.heap.size w w' := by
  have H0 : Hid (OwnS 30 3 cc w w.heap.size (.slice none 0 0) (lst 0)) := ownS_nil _ _
  go_enter Try.func6, Try.ntmps6
  go_wp2_with fail
  go_loopg [1, 2] 60 (fun gm s t wr => ∃ (k : Nat) (v : Value), s = v ∧ t = nm k ∧ 60 - k ≤ gm ∧ k ≤ 60 ∧ Hid (OwnS 30 3 cc wr w.heap.size v (lst k)) ∧ Hid (Below w.heap.size w wr))
  case atStart => exact ⟨0, _, rfl, rfl, by omega, by omega, H0, Below.refl _ _⟩
  case round =>
    clear H0
    obtain ⟨k, v, hv, rfl, hg, hk, HO, HB⟩ := hrel
    have hv2 := hv.symm
    clear hv
    subst hv2
    by_cases hlt : k < 60
    · have t1 : decide ((k : Int) < 60) = true := decide_eq_true (by omega)
      have t2 : (k : Int) < 60 := by omega
      have vk := wrap_nat (k + 1) (by omega)
      have hk2 : k * k ≤ 59 * 59 := Nat.mul_le_mul (by omega) (by omega)
      obtain ⟨kk, hkk⟩ : ∃ kk, kk = k * k := ⟨_, rfl⟩
      rw [← hkk] at hk2
      have e1 : (k : Int) * (k : Int) = (kk : Int) := by rw [hkk]; simp
      obtain ⟨y1, hy1⟩ : ∃ y1, y1 = k * 7 % 5 := ⟨_, rfl⟩
      obtain ⟨y2, hy2⟩ : ∃ y2, y2 = (kk * 3 + 1) % 23 := ⟨_, rfl⟩
      obtain ⟨y3, hy3⟩ : ∃ y3, y3 = k % 5 := ⟨_, rfl⟩
      have a1 : IntKind.u8.wrap (k : Int) = (k : Int) := by rw [IntKind.wrap_u8]; omega
      have a2 : IntKind.i64.wrap ((k : Int) * 7) = (k : Int) * 7 := by rw [IntKind.wrap_i64]; omega
      have a3 : ((k : Int) * 7).tmod 5 = (y1 : Int) := by rw [Int.tmod_eq_emod_of_nonneg (by omega)]; omega
      have a3' : ((k : Int) * 7) % 5 = (y1 : Int) := by omega
      have a4 : IntKind.u8.wrap (y1 : Int) = (y1 : Int) := by rw [IntKind.wrap_u8]; omega
      have a5 : IntKind.i64.wrap (kk : Int) = (kk : Int) := by rw [IntKind.wrap_i64]; omega
      have a6 : IntKind.i64.wrap ((kk : Int) * 3) = (kk : Int) * 3 := by rw [IntKind.wrap_i64]; omega
      have a7 : IntKind.i64.wrap ((kk : Int) * 3 + 1) = (kk : Int) * 3 + 1 := by rw [IntKind.wrap_i64]; omega
      have a8 : ((kk : Int) * 3 + 1).tmod 23 = (y2 : Int) := by rw [Int.tmod_eq_emod_of_nonneg (by omega)]; omega
      have a8' : ((kk : Int) * 3 + 1) % 23 = (y2 : Int) := by omega
      have a9 : (k : Int).tmod 5 = (y3 : Int) := by rw [Int.tmod_eq_emod_of_nonneg (by omega)]; omega
      have a9' : (k : Int) % 5 = (y3 : Int) := by omega
      have b1 : IntKind.u8.wrap (y3 : Int) = (y3 : Int) := by rw [IntKind.wrap_u8]; omega
      have b2 : IntKind.i64.wrap (y1 : Int) = (y1 : Int) := by rw [IntKind.wrap_i64]; omega
      have b3 : IntKind.i64.wrap (y2 : Int) = (y2 : Int) := by rw [IntKind.wrap_i64]; omega
      have b4 : IntKind.i64.wrap (y3 : Int) = (y3 : Int) := by rw [IntKind.wrap_i64]; omega
      have HL : Hid (lst k ++ [⟨k, y1, (y2 : Int)⟩, ⟨2, y3, 0⟩] = lst (k + 1)) := by
        show lst k ++ _ = lst k ++ it k
        rw [hy1, hy2, hy3, hkk]
        rfl
      have HLL := Lib.hid (lst_len k)
      clear hkk hy1 hy2 hy3
      go_wp2_with (first | (at_builtin; refine wpList_append_two eltC _ rfl _ _ rfl w.heap.size v rfl (lst k) (HO.out.alloc _) _ _ rfl ⟨k, y1, (y2 : Int)⟩ ⟨2, y3, 0⟩ (row6 wr k y1 2 y3 (y2 : Int) _) (by have := HLL.out; omega) (by have := HB.out.size; simp; omega) ?_; intro v' w5 ho hgr; have HO2 := Lib.hid ho; have HB2 := Lib.hid ((HB.out.alloc HB.out.size _).grown hgr (by have := HB.out.size; simp; omega) (fun k hk => (HO.out.lt k hk).1)); clear ho hgr))
      have HO3 : Hid (OwnS 30 3 cc w5 w.heap.size v' (lst (k + 1))) := by rw [← HL.out]; exact HO2.out
      clear HO2 HL HO HB
      go_roundg (60 - (k + 1))
      case measure => omega
      case rel => exact ⟨k + 1, v', rfl, by first | rfl | go_num, Nat.le_refl _, by omega, HO3, HB2⟩
    · have t1 : decide ((k : Int) < 60) = false := decide_eq_false (by omega)
      have t2 : ¬ (k : Int) < 60 := by omega
      obtain rfl : k = 60 := by omega
      have hln : (lst 60).length = 120 := lst_len 60
      obtain ⟨g, cap, rfl, hcap⟩ : ∃ g cap, v = .slice (some ⟨g, 0, none⟩) 120 cap ∧ 90 ≤ cap := by
        rcases HO.out.2 with ⟨_, h0⟩ | ⟨g, cap, cur, hv, _, _, hnc, _⟩
        · rw [hln] at h0; omega
        · rw [hln] at hv hnc; exact ⟨g, cap, hv, by omega⟩
      obtain ⟨F, hF⟩ : ∃ F : Nat → Cl, F = fun k => ((lst 60)[k]?).getD ⟨0, 0, 0⟩ := ⟨_, rfl⟩
      have HA1 : Hid (∀ w', OwnS 30 3 cc w' w.heap.size (.slice (some ⟨g, 0, none⟩) 120 cap) (lst 60) → ArgS 3 cc Fits w' (some ⟨g, 0, none⟩) 120 F) := fun w' h => by
        rw [hF]; exact args_of (m := 120) (l := lst 60) (z := 3) (fc := cc) (fun _ => rfl) h (lst_fits 60 (Nat.le_refl _)) ⟨0, 0, 0⟩ (by rw [hln]; decide)
      have HA2 : Hid (∀ w', OwnS 30 3 cc w' w.heap.size (.slice (some ⟨g, 0, none⟩) 120 cap) (lst 60) → ArgS 3 cc Fits w' (some ⟨g, 0, none⟩) 90 F) := fun w' h => by
        rw [hF]; exact args_of (m := 90) (l := lst 60) (z := 3) (fc := cc) (fun _ => rfl) h (lst_fits 60 (Nat.le_refl _)) ⟨0, 0, 0⟩ (by rw [hln]; decide)
      clear hF hln t1 t2
      go_wp2_with fail
      have HT : Hid ((wr.alloc O13).heap[wr.heap.size]? = some O13) := Lib.hid (nest wr [O13] 0 _ rfl)
      have HB0 := Lib.hid (HB.out.alloc HB.out.size O13)
      have HO0 : Hid (OwnS 30 3 cc (wr.alloc O13) w.heap.size (.slice (some ⟨g, 0, none⟩) 120 cap) (lst 60)) := HO.out.alloc _
      clear HO HB
      generalize wr.alloc O13 = w0 at HT HB0 HO0 ⊢
      generalize wr.heap.size = b at HT ⊢
      go_loopg [37] 13 (fun gm s wr2 => ∃ k : Nat, s = nm k ∧ 13 - k ≤ gm ∧ k ≤ 13 ∧ Hid (Below w0.heap.size w0 wr2))
      case atStart => exact ⟨0, rfl, by omega, by omega, Below.refl _ _⟩
      case round =>
        obtain ⟨k, rfl, hg2, hk13, HB1⟩ := hrel
        by_cases hlt : k < 13
        · have t1 : decide ((k : Int) < 13) = true := decide_eq_true (by omega)
          have t2 : (k : Int) < 13 := by omega
          have j0 : (0 : Int) ≤ (k : Int) := by omega
          have vk := wrap_nat (k + 1) (by omega)
          obtain ⟨x, hx, hcell⟩ := at13 (stays HT.out HB1.out) k hlt
          have cp := Lib.hid (wheelPlays.law x hx (some ⟨g, 0, none⟩) 120 cap F (by decide) wr (HA1.out wr (HO0.out.below HB1.out)))
          clear hx
          go_wp2_with fail
          refine cp.out.mono ?_
          rintro _ w3 ⟨rfl, hb⟩
          have HB2 := Lib.hid (below_on HB1.out hb)
          clear hb cp HB1 hcell
          go_wp2
          go_roundg (13 - (k + 1))
          case measure => omega
          case rel => exact ⟨k + 1, by first | rfl | go_num, Nat.le_refl _, by omega, HB2⟩
        · have t1 : decide ((k : Int) < 13) = false := decide_eq_false (by omega)
          have t2 : ¬ (k : Int) < 13 := by omega
          have HBW := Lib.hid (below_on HB0.out HB1.out)
          have HOW := Lib.hid (HO0.out.below HB1.out)
          have cn : Hid (Calls Try.prog 8 #[.int .i64 16] wr fun r w' => ∃ pb, r = .returned (ptr pb) ∧ Wn wr pb 16 (fun _ => 0) w') := nnew (w0 := wr) 16 (by omega) (by omega) wr (Below.refl _ _)
          clear HT HB0 HO0 HB1 t1 t2 hk13 hg2
          generalize wr = wz at HBW HOW cn ⊢
          go_wp2_with fail
          refine cn.out.mono ?_
          rintro _ w1 ⟨pb, rfl, hw1⟩
          have HW1 := Lib.hid hw1
          have HF1 : Hid (∀ k, k < 256 → (fun _ : Nat => 0) k = if 256 ≤ k + 0 then 5 else 0) := fun k hk => by rw [if_neg (by omega)]
          clear cn hw1
          go_wp2_with fail
          go_loopg [6] 256 (fun gm s wr2 => ∃ (i : Nat) (f : Nat → Nat), s = nm i ∧ 256 - i ≤ gm ∧ i ≤ 256 ∧ Hid (∀ k, k < 256 → f k = if 256 ≤ k + i then 5 else 0) ∧ Hid (Wn wz pb 16 f wr2))
          case atStart => exact ⟨0, _, rfl, by omega, by omega, HF1, HW1⟩
          case round =>
            clear HF1 HW1
            obtain ⟨i, f, rfl, hg3, hi, HF, HW⟩ := hrel
            by_cases hlt : i < 256
            · have t1 : decide ((i : Int) < 256) = true := decide_eq_true (by omega)
              have t2 : (i : Int) < 256 := by omega
              have vi := wrap_nat (i + 1) (by omega)
              obtain ⟨m, hm⟩ : ∃ m, m = 255 - i := ⟨_, rfl⟩
              have q0 : 255 - (i : Int) = (m : Int) := by omega
              have q1 : IntKind.i64.wrap (m : Int) = (m : Int) := wrap_nat m (by omega)
              have q2 : IntKind.u8.wrap (m : Int) = (m : Int) := by rw [IntKind.wrap_u8]; omega
              have cs : Hid (Calls Try.prog 14 #[ptr pb, oc m, .int .i64 5] wr fun r w' => r = .returned (.int .i64 0) ∧ Wn wz pb 16 (upd f m 5) w') := nset HW.out m 5 (by omega) (by omega) (by omega)
              have HF2 : Hid (∀ k, k < 256 → upd f m 5 k = if 256 ≤ k + (i + 1) then 5 else 0) := fun k hk => by
                unfold upd
                by_cases hkm : k = m
                · rw [if_pos hkm, if_pos (by omega)]
                · rw [if_neg hkm, HF.out k hk]
                  by_cases h9 : 256 ≤ k + i
                  · rw [if_pos h9, if_pos (by omega)]
                  · rw [if_neg h9, if_neg (by omega)]
              clear hm HF HW
              go_wp2_with fail
              refine cs.out.mono ?_
              rintro _ w3 ⟨rfl, hw3⟩
              have HW3 := Lib.hid hw3
              clear cs hw3
              go_wp2
              go_roundg (256 - (i + 1))
              case measure => omega
              case rel => exact ⟨i + 1, _, by first | rfl | go_num, Nat.le_refl _, by omega, HF2, HW3⟩
            · have t1 : decide ((i : Int) < 256) = false := decide_eq_false (by omega)
              have t2 : ¬ (i : Int) < 256 := by omega
              have HF2 : Hid (∀ k, k < 256 → f k = 5 - 0) := fun k hk => by rw [HF.out k hk, if_pos (by omega)]
              clear HF
              go_wp2_with fail
              clear t1 t2
              go_loopg [7] 4 (fun gm s wr2 => ∃ (i : Nat) (f : Nat → Nat), s = nm i ∧ 4 - i ≤ gm ∧ i ≤ 4 ∧ Hid (∀ k, k < 256 → f k = 5 - i) ∧ Hid (Wn wz pb 16 f wr2))
              case atStart => exact ⟨0, _, rfl, by omega, by omega, HF2, HW⟩
              case round =>
                clear HF2 HW hg3 hi hlt
                obtain ⟨i, f, rfl, hg3, hi, HF, HW⟩ := hrel
                by_cases hlt : i < 4
                · have t1 : decide ((i : Int) < 4) = true := decide_eq_true (by omega)
                  have t2 : (i : Int) < 4 := by omega
                  have vi := wrap_nat (i + 1) (by omega)
                  have ct := Lib.hid (ntick HW.out)
                  have hd := due_none (f := f) fun k hk => by rw [HF.out k hk]; omega
                  have HF3 : Hid (∀ k, k < 256 → tick f k = 5 - (i + 1)) := fun k hk => by
                    show f k - 1 = _
                    rw [HF.out k hk]; omega
                  clear HF HW
                  go_wp2_with fail
                  refine ct.out.mono ?_
                  rintro _ w3 ⟨v, rfl, hw3, ho3⟩
                  rw [hd] at ho3
                  obtain ⟨oa, cp, rfl, _⟩ := own_form ho3
                  have HW3 := Lib.hid hw3
                  clear ct hw3 ho3 hd
                  go_wp2
                  go_roundg (4 - (i + 1))
                  case measure => omega
                  case rel => exact ⟨i + 1, _, by first | rfl | go_num, Nat.le_refl _, by omega, HF3, HW3⟩
                · have t1 : decide ((i : Int) < 4) = false := decide_eq_false (by omega)
                  have t2 : ¬ (i : Int) < 4 := by omega
                  have ct := Lib.hid (ntick HW.out)
                  have hd := due_all (f := f) fun k hk => by rw [HF.out k hk]; omega
                  have HF3 : Hid (∀ k, k < 256 → tick f k = 0) := fun k hk => by
                    show f k - 1 = _
                    rw [HF.out k hk]; omega
                  clear HF HW
                  go_wp2_with fail
                  refine ct.out.mono ?_
                  rintro _ w3 ⟨v, rfl, hw3, ho3⟩
                  rw [hd] at ho3
                  obtain ⟨oa, cq, rfl, ga⟩ := own_form ho3
                  rw [List.length_range] at ho3 ga ⊢
                  have HW3 := Lib.hid hw3
                  have HO3 := Lib.hid ho3
                  have GA := Lib.hid ga
                  obtain ⟨f9, hf9⟩ : ∃ f9, f9 = tick f := ⟨_, rfl⟩
                  rw [← hf9] at HW3 HF3
                  clear ct hw3 ho3 ga hd t1 t2 hf9
                  go_wp2_with fail
                  go_loopg [9] 256 (fun gm s wr2 => ∃ (i : Nat), s = nm i ∧ 256 - i ≤ gm ∧ i ≤ 256 ∧ wr2 = w3)
                  case atStart => exact ⟨0, rfl, by omega, by omega, rfl⟩
                  case round =>
                    clear hg3 hi hlt
                    obtain ⟨i, rfl, hg3, hi, hwe⟩ := hrel
                    subst hwe
                    by_cases hlt : i < 256
                    · have t1 : decide ((i : Int) < 256) = true := decide_eq_true (by omega)
                      have t2 : (i : Int) < 256 := by omega
                      have j0 : (0 : Int) ≤ (i : Int) := by omega
                      have vi := wrap_nat (i + 1) (by omega)
                      have vi0 := wrap_nat i (by omega)
                      obtain ⟨g1, rfl⟩ := GA.out i hlt
                      have c1 : wr.cell? ⟨g1, i, none⟩ = some (oc i) := own_cell HO3.out (by rw [List.getElem?_range hlt])
                      go_wp2
                      go_roundg (256 - (i + 1))
                      case measure => omega
                      case rel => exact ⟨i + 1, by first | rfl | go_num, Nat.le_refl _, by omega, rfl⟩
                    · have t1 : decide ((i : Int) < 256) = false := decide_eq_false (by omega)
                      have t2 : ¬ (i : Int) < 256 := by omega
                      have cc0 := ncount HW3.out
                      rw [cnt_none HF3.out] at cc0
                      have cc0 := Lib.hid cc0
                      have cs : Hid (Calls Try.prog 14 #[ptr pb, .int .u8 1, .int .i64 65535] wr fun r w' => r = .returned (.int .i64 0) ∧ Wn wz pb 16 (upd f9 1 65535) w') := nset HW3.out 1 65535 (by omega) (by omega) (by omega)
                      clear HF3 HO3 GA
                      go_wp2_with fail
                      refine cc0.out.mono ?_
                      rintro _ w4 ⟨rfl, rfl⟩
                      clear cc0
                      go_wp2_with fail
                      refine cs.out.mono ?_
                      rintro _ w5 ⟨rfl, hw5⟩
                      have cl : Hid (Calls Try.prog 13 #[ptr pb, .int .u8 1] w5 fun r w' => r = .returned (.int .i64 65535) ∧ Wn wz pb 16 (upd f9 1 65535) w') := nleft hw5 1 (by omega)
                      clear cs hw5
                      go_wp2_with fail
                      refine cl.out.mono ?_
                      rintro _ w6 ⟨rfl, hw6⟩
                      have ca : Hid (Calls Try.prog 14 #[ptr pb, .int .u8 1, .int .i64 65536] w6 fun r w' => r = .returned (.int .i64 2) ∧ w' = w6) := wset_arg w6 pb 1 65536 (by omega)
                      have cn1 : Hid (Calls Try.prog 14 #[.pointer none, .int .u8 1, .int .i64 1] w6 fun r w' => r = .returned (.int .i64 1) ∧ w' = w6) := wset_nil w6 1 1
                      have cn2 : Hid (Calls Try.prog 15 #[.pointer none, .int .u8 1] w6 fun r w' => r = .returned (.bool false) ∧ Below w6.heap.size w6 w') := wstop_nil w6 1
                      have HB6 := Lib.hid hw6.below
                      clear cl hw6
                      go_wp2_with fail
                      refine ca.out.mono ?_
                      rintro _ w7 ⟨rfl, rfl⟩
                      clear ca
                      go_wp2_with fail
                      refine cn1.out.mono ?_
                      rintro _ w8 ⟨rfl, rfl⟩
                      clear cn1
                      go_wp2_with fail
                      refine cn2.out.mono ?_
                      rintro _ w9 ⟨rfl, hb9⟩
                      have HB9 := Lib.hid (below_on HB6.out hb9)
                      have cn3 : Hid (Calls Try.prog 13 #[.pointer none, .int .u8 1] w9 fun r w' => r = .returned (.int .i64 0) ∧ w' = w9) := fleft_nil 1 w9
                      have cn4 := Lib.hid (wtick_nil w9)
                      clear cn2 hb9 HB6
                      go_wp2_with fail
                      refine cn3.out.mono ?_
                      rintro _ wa ⟨rfl, rfl⟩
                      clear cn3
                      go_wp2_with fail
                      refine cn4.out.mono ?_
                      rintro _ wb ⟨rfl, hbb⟩
                      have HBB := Lib.hid (below_on HB9.out hbb)
                      have cn5 : Hid (Calls Try.prog 11 #[.pointer none] wb fun r w' => r = .returned (.int .i64 0) ∧ w' = wb) := fcount_nil wb
                      clear cn4 hbb HB9
                      go_wp2_with fail
                      refine cn5.out.mono ?_
                      rintro _ wc ⟨rfl, rfl⟩
                      have cd : Hid (Calls Try.prog 4 #[.int .u8 7, .int .u8 3, .int .u16 600, .slice (some ⟨g, 0, none⟩) 90 cap] wc fun e w' => e = .returned (.bool true) ∧ Below wc.heap.size wc w') :=
                        wheelDue.law 7 (by decide) 3 (by decide) 600 (by decide) (some ⟨g, 0, none⟩) 90 cap F (by decide) wc (HA2.out wc (HOW.out.below HBB.out))
                      have k1 : (90 : Int) ≤ (cap : Int) := by omega
                      clear cn5
                      go_wp2_with fail
                      refine cd.out.mono ?_
                      rintro _ wd ⟨rfl, hbd⟩
                      have HBD := Lib.hid (below_on HBB.out hbd)
                      have ce : Hid (Calls Try.prog 5 #[.int .u8 0, .int .u8 255, .slice (some ⟨g, 0, none⟩) 120 cap] wd fun e w' => e = .returned (.bool true) ∧ Below wd.heap.size wd w') :=
                        wheelSlots.law 0 (by decide) 255 (by decide) (some ⟨g, 0, none⟩) 120 cap F (by decide) wd (HA1.out wd (HOW.out.below HBD.out))
                      clear cd hbd HBB
                      go_wp2_with fail
                      refine ce.out.mono ?_
                      rintro _ we ⟨rfl, hbe⟩
                      have HBE := Lib.hid (below_on HBD.out hbe)
                      have cf := Lib.hid (fworks we)
                      clear ce hbe HBD
                      go_wp2_with fail
                      refine cf.out.mono ?_
                      rintro _ wf ⟨rfl, hbf⟩
                      have HBF := Lib.hid (below_on HBW.out (below_on HBE.out hbf))
                      clear cf hbf HBE
                      go_wp2
                      go_ret
                      exact ⟨rfl, HBF.out⟩
end Go.Proofs.Ytcadeoolacoidaa.wheelKnown

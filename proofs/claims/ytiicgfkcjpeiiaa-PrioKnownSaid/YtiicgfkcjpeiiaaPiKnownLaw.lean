/-
  PrioKnown answers true, and turns nothing that was there. No condition.
-/
import Derived.Test.YtiicgfkcjpeiiaaPiFairLaw
import Derived.Test.YtiicgfkcjpeiiaaPiApartLaw
namespace Go.Proofs.Ytiicgfkcjpeiiaa.prioKnown
open Go.RowKit Go.Proofs.Ytiicgfkcjpeiiaa.Base Go.Proofs.Ytiicgfkcjpeiiaa.Mem Go.Proofs.Ytiicgfkcjpeiiaa.Cr Go.Proofs.Ytiicgfkcjpeiiaa.Pi
theorem eltC : Elt CT 22 4 cc :=
  ⟨Try.underlying22, ⟨.agg #[.int .u8 0, .int .u8 0, .int .u8 0, .bool false], 4, by kernel_rfl, rfl, by decide⟩, fun _ => rfl, fun x u hu => by
    simp only [cc, List.mem_cons, List.not_mem_nil, or_false] at hu
    rcases hu with rfl | rfl | rfl | rfl <;> rfl, by decide⟩
theorem rowC (w : World) (y : Ct) : ∀ j, j < 4 → (w.alloc (.cells #[oc y.k, oc y.d, oc y.c, .bool y.o] CT (0, 0))).cell? ⟨w.heap.size, j, none⟩ = (cc y)[j]? := by
  intro j hj
  have hb : (w.alloc (.cells #[oc y.k, oc y.d, oc y.c, .bool y.o] CT (0, 0))).heap[w.heap.size]? = some (.cells #[oc y.k, oc y.d, oc y.c, .bool y.o] CT (0, 0)) := nest w [_] 0 _ rfl
  match j, hj with
  | 0, _ => exact cell_of hb rfl
  | 1, _ => exact cell_of hb rfl
  | 2, _ => exact cell_of hb rfl
  | 3, _ => exact cell_of hb rfl
/-- Calls, in memory of the call's own. -/
structure Cl (w0 : World) (v : Value) (l : List Ct) (w : World) : Prop where
  own : OwnS CT 4 cc w w0.heap.size v l
  fit : ∀ y ∈ l, CFit y
  below : Below w0.heap.size w0 w
def callAt (l : List Ct) (k : Nat) : Ct := l.getD k ⟨0, 0, 0, false⟩
section
variable {w0 w w' : World} {v : Value} {l : List Ct}
theorem Cl.next {v' : Value} {y : Ct} (h : Cl w0 v l w) (o : Obj) (hy : CFit y) (ho : OwnS CT 4 cc w' w0.heap.size v' (l ++ [y])) (hg : (w.alloc o).grownBy w' v.ownBlock) : Cl w0 v' (l ++ [y]) w' := by
  have hb := h.below.alloc h.below.size o
  refine ⟨ho, fun z hz => ?_, (Chg.of_grown (S := fun k => v.ownBlock = some k) hg (fun k e => e)).below hb hb.size (fun k hk => (h.own.lt k hk).1)⟩
  rcases List.mem_append.1 hz with hz | hz
  · exact h.fit z hz
  · rw [List.mem_singleton.1 hz]; exact hy
section
variable {ops : Array Oper} {rest : List Oper} {o : Oper} {a : Act} {Q : Exit → Act → World → Prop} {s z : Operand} {c : Nat}
theorem Cl.app (h : Cl w0 v l w) (y : Ct) (hy : CFit y) (hn : l.length + 1 ≤ 1000000) (hgd : o.guard = none) (hop : o.op = .call { callee := .builtin .append, args := #[s, z], argTypes := #[22, 22] })
    (hs : a.eval s = v) (hx : a.eval z = .slice (some ⟨w.heap.size, 0, none⟩) 1 c)
    (k : ∀ v4 w4, Hid (Cl w0 v4 (l ++ [y]) w4) → wpList Try.prog ops Q rest (a.put o.dst v4) w4) :
    wpList Try.prog ops Q (o :: rest) a (w.alloc (.cells #[oc y.k, oc y.d, oc y.c, .bool y.o] CT (0, 0))) :=
  wpList_append_elt eltC _ hgd s z hop w0.heap.size v hs l (h.own.alloc _) w.heap.size c hx y (rowC w y) hn (by have := h.below.size; simp; omega) fun v4 w4 ho hg _ =>
    k v4 w4 (Lib.hid (h.next _ hy ho hg))
end
/-- The calls as an argument: from the number lo on, up to hi. -/
theorem Cl.arg {m : Nat} (h : Cl w0 v l w) (hl : l.length = m) (h0 : 0 < m) : ∃ g cap, v = .slice (some ⟨g, 0, none⟩) m cap ∧ m ≤ cap ∧ cap ≤ maxLen ∧ ∀ lo n, lo + n ≤ m → ArgS 4 cc CFit w (some ⟨g, lo * 4, none⟩) n (fun k => callAt l (lo + k)) := by
  rcases h.own.2 with ⟨_, e⟩ | ⟨g, cap, cur, e, _, _, hc1, hc2, _⟩
  · omega
  rw [hl] at e hc1
  subst e
  refine ⟨g, cap, rfl, hc1, hc2, fun lo n hln => ⟨fun _ => ⟨_, rfl, (h.own.lt g rfl).2⟩, fun k hk => ?_, fun a ha k hk j hj => ?_⟩⟩
  · have hk2 : lo + k < l.length := by omega
    unfold callAt
    rw [List.getD_eq_getElem?_getD, List.getElem?_eq_getElem hk2]
    exact h.fit _ (List.getElem_mem hk2)
  · rw [Option.some.injEq] at ha
    subst ha
    have hk2 : lo + k < l.length := by omega
    have e : l[lo + k]? = some (callAt l (lo + k)) := by
      unfold callAt
      rw [List.getD_eq_getElem?_getD, List.getElem?_eq_getElem hk2]
      rfl
    rw [add_off, add_off]
    have := OwnS.cell (fc := cc) (z := 4) (fun _ => rfl) h.own (lo + k) _ e j hj
    rw [← this, show 4 * (lo + k) + j = lo * 4 + k * 4 + j by omega]
theorem Cl.on (h : Cl w0 v l w) (hb : Below w.heap.size w w') : Cl w0 v l w' := ⟨h.own.below hb, h.fit, below_on h.below hb⟩
theorem Cl.drewN (h : Cl w0 v l w) (n : Nat) : Cl w0 v l (w.drewN n) := h.on ⟨rfl, rfl, rfl, Nat.le_refl _, fun _ _ => rfl⟩
end
set_option maxHeartbeats 16000000 in
set_option maxRecDepth 100000 in
theorem law (w : World) : Calls Try.prog 6 #[] w fun e w' => e = .returned (.bool true) ∧ Below w.heap.size w w' := by
  have HC : Hid (Cl w (.slice none 0 0) [] w) := Lib.hid ⟨ownS_nil _ _, fun _ h => (by cases h), Below.refl _ _⟩
  go_enter Try.func6, Try.ntmps6
  go_wp2_with fail
  go_loopg [1, 2] 100 (fun gm v s2 wr => ∃ (i : Nat) (lc : List Ct), s2 = nm i ∧ 100 - i ≤ gm ∧ i ≤ 100 ∧ Hid (lc.length = i) ∧ Hid (Cl w v lc wr))
  case atStart => exact ⟨0, [], rfl, by omega, by omega, Lib.hid rfl, HC⟩
  case round =>
    clear HC
    obtain ⟨i, lc, rfl, hgi, hi9, HLN, HC⟩ := hrel
    by_cases hi : i < 100
    · have t1 : decide ((i : Int) < 100) = true := decide_eq_true (by omega)
      have t1b : (i : Int) < 100 := by omega
      have vi := wrap_nat (i + 1) (by omega)
      obtain ⟨p7, hp7⟩ : ∃ p, i * 7 = p := ⟨_, rfl⟩
      have v7 : IntKind.i64.wrap ((i : Int) * 7) = (p7 : Int) := by rw [IntKind.wrap_i64]; omega
      obtain ⟨k7, hk7⟩ : ∃ m, p7 % 8 = m := ⟨_, rfl⟩
      have r7 : (p7 : Int).tmod 8 = (k7 : Int) := by rw [Int.tmod_eq_emod_of_nonneg (by omega)]; omega
      have q7 : (p7 : Int) % 8 = (k7 : Int) := by omega
      have b7 : k7 < 256 := by omega
      have u7 := wrap_u8 k7 b7
      have w7 := wrap_nat k7 (by omega)
      obtain ⟨p13, hp13⟩ : ∃ p, i * 13 = p := ⟨_, rfl⟩
      have v13 : IntKind.i64.wrap ((i : Int) * 13) = (p13 : Int) := by rw [IntKind.wrap_i64]; omega
      obtain ⟨k13, hk13⟩ : ∃ m, p13 % 67 = m := ⟨_, rfl⟩
      have r13 : (p13 : Int).tmod 67 = (k13 : Int) := by rw [Int.tmod_eq_emod_of_nonneg (by omega)]; omega
      have q13 : (p13 : Int) % 67 = (k13 : Int) := by omega
      have b13 : k13 < 256 := by omega
      have u13 := wrap_u8 k13 b13
      have w13 := wrap_nat k13 (by omega)
      obtain ⟨k66, hk66⟩ : ∃ m, i % 66 = m := ⟨_, rfl⟩
      have r66 : (i : Int).tmod 66 = (k66 : Int) := by rw [Int.tmod_eq_emod_of_nonneg (by omega)]; omega
      have q66 : (i : Int) % 66 = (k66 : Int) := by omega
      have b66 : k66 < 256 := by omega
      have u66 := wrap_u8 k66 b66
      have w66 := wrap_nat k66 (by omega)
      obtain ⟨k3, hk3⟩ : ∃ m, i % 3 = m := ⟨_, rfl⟩
      have r3 : (i : Int).tmod 3 = (k3 : Int) := by rw [Int.tmod_eq_emod_of_nonneg (by omega)]; omega
      have q3 : (i : Int) % 3 = (k3 : Int) := by omega
      have w3 := wrap_nat k3 (by omega)
      obtain ⟨g, hg⟩ : ∃ g, decide (0 < k3) = g := ⟨_, rfl⟩
      have HY : Hid (CFit ⟨k7, k13, k66, g⟩) := Lib.hid ⟨b7, b13, b66⟩
      have HL : Hid (lc.length + 1 ≤ 1000000) := Lib.hid (by have := HLN.out; omega)
      clear hp7 hk7 hp13 hk13 hk66 hk3
      go_wp2_with (at_builtin; refine HC.out.app ⟨k7, k13, k66, g⟩ HY.out HL.out rfl rfl rfl rfl ?_; intro v4 w4 h1; have HC2 := h1; clear h1)
      go_roundg (100 - (i + 1))
      case measure => omega
      case rel => exact ⟨i + 1, lc ++ [⟨k7, k13, k66, g⟩], by first | rfl | go_num, Nat.le_refl _, by omega, Lib.hid (by rw [List.length_append, HLN.out]; rfl), HC2⟩
    · obtain rfl : i = 100 := by omega
      obtain ⟨g, cap, hv, hc1, hc2, hA⟩ := HC.out.arg HLN.out (by decide)
      subst hv
      have HA := Lib.hid hA
      have HB := Lib.hid HC.out.below
      unfold maxLen at hc2
      clear hA HC
      generalize callAt lc = F at HA
      go_wp2_with fail
      go_loopg [3] 90 (fun gm s wq => ∃ j : Nat, s = nm j ∧ 90 - j ≤ gm ∧ j ≤ 90 ∧ Hid (Below wr.heap.size wr wq))
      case atStart => exact ⟨0, rfl, by omega, by omega, Lib.hid (Below.refl _ _)⟩
      case round =>
        obtain ⟨j, rfl, hgj, hj9, HN⟩ := hrel
        by_cases hj : j < 90
        · have t2 : decide ((j : Int) < 90) = true := decide_eq_true (by omega)
          have t2b : (j : Int) < 90 := by omega
          have j0 : (0 : Int) ≤ (j : Int) := by omega
          have vj := wrap_nat (j + 1) (by omega)
          have uj := wrap_u8 j (by omega)
          have j1 : (j : Int) ≤ (cap : Int) := by omega
          have j2 : j ≤ cap := by omega
          have j3 : ¬ cap = j := by omega
          have j4 : j ≤ 100 := by omega
          have j5 : (j : Int) ≤ 100 := by omega
          have A1 := Lib.hid ((HA.out 0 j (by omega)).below HN.out)
          go_wp2_with fail
          refine (prioPlays.all _ j cap _ _ A1.out).mono ?_
          rintro _ w3 ⟨rfl, hb⟩
          have HN2 := Lib.hid (below_on HN.out hb)
          clear hb HN A1
          obtain ⟨m, hm⟩ : ∃ m, 100 - j = m := ⟨_, rfl⟩
          have A2 := Lib.hid ((HA.out j m (by omega)).below HN2.out)
          go_wp2_with fail
          refine (prioFair.all _ m (cap - j) _ _ A2.out).mono ?_
          rintro _ w4 ⟨rfl, hb⟩
          have HN3 := Lib.hid (below_on HN2.out hb)
          clear hb HN2 A2
          have A3 := Lib.hid ((HA.out 0 j (by omega)).below HN3.out)
          go_wp2_with fail
          refine (prioApart.all _ j cap _ j (by omega) _ A3.out).mono ?_
          rintro _ w5 ⟨rfl, hb⟩
          have HN4 := Lib.hid (below_on HN3.out hb)
          clear hb HN3 A3 hm
          go_wp2
          go_roundg (90 - (j + 1))
          case measure => omega
          case rel => exact ⟨j + 1, by first | rfl | go_num, Nat.le_refl _, by omega, HN4⟩
        · have t2 : decide ((j : Int) < 90) = false := decide_eq_false (by omega)
          have t2b : ¬ (j : Int) < 90 := by omega
          have HB2 := Lib.hid (below_on HB.out HN.out)
          clear HN HB HA
          have HC : Hid (Cl w (.slice none 0 0) [] wr) := Lib.hid ⟨ownS_nil _ _, fun _ h => (by cases h), HB2.out⟩
          clear HB2 hgj hj9 hj
          go_wp2_with fail
          go_loopg [4, 5] 64 (fun gm v s5 wq => ∃ (i : Nat) (lc : List Ct), s5 = nm i ∧ 64 - i ≤ gm ∧ i ≤ 64 ∧ Hid (lc.length = i) ∧ Hid (Cl w v lc wq))
          case atStart => exact ⟨0, [], rfl, by omega, by omega, Lib.hid rfl, HC⟩
          case round =>
            clear HC
            obtain ⟨i, lc, rfl, hgi, hi9, HLN, HC⟩ := hrel
            by_cases hi : i < 64
            · have i1 : decide ((i : Int) < 64) = true := decide_eq_true (by omega)
              have i2 : (i : Int) < 64 := by omega
              have vi := wrap_nat (i + 1) (by omega)
              obtain ⟨m, hm⟩ : ∃ m, 63 - i = m := ⟨_, rfl⟩
              have vm : IntKind.i64.wrap ((63 : Int) - (i : Int)) = (m : Int) := by rw [IntKind.wrap_i64]; omega
              have um := wrap_u8 m (by omega)
              have HY : Hid (CFit ⟨1, m, 0, true⟩) := Lib.hid ⟨(by show 1 < 256; decide), (by show m < 256; omega), (by show 0 < 256; decide)⟩
              have HL : Hid (lc.length + 1 ≤ 1000000) := Lib.hid (by have := HLN.out; omega)
              clear hm
              go_wp2_with (at_builtin; refine HC.out.app ⟨1, m, 0, true⟩ HY.out HL.out rfl rfl rfl rfl ?_; intro v4 w4 h1; have HC2 := h1; clear h1)
              go_roundg (64 - (i + 1))
              case measure => omega
              case rel => exact ⟨i + 1, lc ++ [⟨1, m, 0, true⟩], by first | rfl | go_num, Nat.le_refl _, by omega, Lib.hid (by rw [List.length_append, HLN.out]; rfl), HC2⟩
            · obtain rfl : i = 64 := by omega
              obtain ⟨g, cap, hv, -, -, hA⟩ := HC.out.arg HLN.out (by decide)
              subst hv
              have HA := Lib.hid (hA 0 64 (by decide))
              have HB := Lib.hid HC.out.below
              clear hA HC
              generalize callAt lc = F at HA
              go_wp2_with fail
              refine (fpick_nil _).mono ?_
              rintro _ _ ⟨rfl, rfl⟩
              go_wp2_with fail
              refine (prioFair.all _ 64 cap _ _ HA.out).mono ?_
              rintro _ w3 ⟨rfl, hb⟩
              have HA2 := Lib.hid (HA.out.below hb)
              have HB2 := Lib.hid (below_on HB.out hb)
              clear hb HA HB
              go_wp2_with fail
              refine (prioPlays.all _ 64 cap _ _ HA2.out).mono ?_
              rintro _ w4 ⟨rfl, hb⟩
              have HB3 := Lib.hid (below_on HB2.out hb)
              clear hb HA2 HB2
              go_wp2_with fail
              refine (fsetC_nil 1 1 _).mono ?_
              rintro _ _ ⟨rfl, rfl⟩
              go_wp2_with fail
              refine (fsetR_nil 1 true _).mono ?_
              rintro _ _ ⟨rfl, rfl⟩
              go_wp2_with fail
              refine (fready_nil 1 _).mono ?_
              rintro _ _ ⟨rfl, rfl⟩
              go_wp2_with fail
              refine (fmay_nil 1 _).mono ?_
              rintro _ w5 ⟨rfl, nq, rfl⟩
              have HB4 := Lib.hid (below_drewN HB3.out nq)
              clear HB3
              generalize w4.drewN nq = w5 at HB4 ⊢
              go_wp2_with fail
              refine (ftake_no (fmay_nil 1 _)).mono ?_
              rintro _ w6 ⟨rfl, nq, rfl⟩
              have HB5 := Lib.hid (below_drewN HB4.out nq)
              clear HB4
              generalize w5.drewN nq = w6 at HB5 ⊢
              go_wp2_with fail
              refine (fclass_nil 5 _).mono ?_
              rintro _ _ ⟨rfl, rfl⟩
              go_wp2_with fail
              refine (fworks _).mono ?_
              rintro _ w7 ⟨rfl, hb⟩
              have HB6 := Lib.hid (below_on HB5.out hb)
              clear hb HB5
              go_wp2
              go_ret
              exact ⟨rfl, HB6.out⟩
end Go.Proofs.Ytiicgfkcjpeiiaa.prioKnown

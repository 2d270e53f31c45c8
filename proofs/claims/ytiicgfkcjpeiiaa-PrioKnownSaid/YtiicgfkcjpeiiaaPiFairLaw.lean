/-
  PrioFair answers true whatever came in, and turns nothing that was there. No condition.
-/
import Derived.Test.YtiicgfkcjpeiiaaPiPlaysLaw
namespace Go.Proofs.Ytiicgfkcjpeiiaa.Pi
open Go.RowKit Go.Proofs.Ytiicgfkcjpeiiaa.Base Go.Proofs.Ytiicgfkcjpeiiaa.Mem Go.Proofs.Ytiicgfkcjpeiiaa.Cr
abbrev fcB (c : Bool) : List Value := [.bool c]
theorem eltB : Elt 4 34 1 fcB :=
  ⟨Try.underlying34, ⟨.bool false, 1, by kernel_rfl, rfl, by decide⟩, fun _ => rfl, fun x u hu => by
    simp only [fcB, List.mem_cons, List.not_mem_nil, or_false] at hu
    rcases hu with rfl; rfl, by decide⟩
/-- One, and who may of those below d, in a slice of the call's own. -/
structure G1 (w0 : World) (b : Nat) (x : St) (v : Value) (d : Nat) (w : World) : Prop where
  one : Pn w0 b x w
  own : OwnS 4 1 fcB w w0.heap.size v ((List.range d).map x.may)
/-- One, and a row of 64 booleans. -/
structure G2 (w0 : World) (b : Nat) (x : St) (g : Nat) (r : Nat → Bool) (w : World) : Prop where
  one : Pn w0 b x w
  ar : Ar w g 4 64 fun d => .bool (r d)
  lo : w0.heap.size ≤ g
section
variable {w0 w w' : World} {b d g : Nat} {x y : St} {v : Value} {r : Nat → Bool}
theorem G1.start (h : Pn w0 b x w) : G1 w0 b x (.slice none 0 0) 0 w := ⟨h, ownS_nil _ _⟩
theorem G1.drewN (h : G1 w0 b x v d w) (n : Nat) : G1 w0 b x v d (w.drewN n) := ⟨h.one.drewN n, h.own.below ⟨rfl, rfl, rfl, Nat.le_refl _, fun _ _ => rfl⟩⟩
theorem G1.put {v4 : Value} {w4 : World} {o : Obj} (h : G1 w0 b x v d w) (ho : OwnS 4 1 fcB w4 w0.heap.size v4 ((List.range d).map x.may ++ [x.may d])) (hg : (w.alloc o).grownBy w4 v.ownBlock) : G1 w0 b x v4 (d + 1) w4 := by
  have h1 : Pn w0 b x (w.alloc o) := h.one.on ((Below.refl _ _).alloc (Nat.le_refl _) o)
  have hcg := Chg.of_grown (S := fun k => v.ownBlock = some k) hg fun _ e => e
  refine ⟨⟨h1.q.other hcg fun e => ?_, h1.lo, hcg.below h1.below h1.below.size fun k hk => (h.own.lt k hk).1⟩, ?_⟩
  · obtain ⟨cs, hc⟩ := own_blk h.own e
    obtain ⟨cs', hc', _⟩ := h.one.q.ar
    exact ne_type hc' hc (by decide) rfl
  · rw [List.range_succ, List.map_append]; exact ho
section
variable {ops : Array Oper} {rest : List Oper} {o : Oper} {a : Act} {Q : Exit → Act → World → Prop} {s z : Operand} {c : Nat}
theorem G1.app (h : G1 w0 b x v d w) (m : Bool) (hm : x.may d = m) (hd : d < 64) (hgd : o.guard = none) (hop : o.op = .call { callee := .builtin .append, args := #[s, z], argTypes := #[34, 34] })
    (hs : a.eval s = v) (hx : a.eval z = .slice (some ⟨w.heap.size, 0, none⟩) 1 c)
    (k : ∀ v4 w4, Hid (G1 w0 b x v4 (d + 1) w4) → wpList Try.prog ops Q rest (a.put o.dst v4) w4) :
    wpList Try.prog ops Q (o :: rest) a (w.alloc (.cells #[.bool m] 4 (0, 0))) :=
  wpList_append_elt eltB _ hgd s z hop w0.heap.size v hs ((List.range d).map x.may) (h.own.alloc _) w.heap.size c hx m (row1 w (.bool m) _) (by simp; omega) (by have := h.one.below.size; simp; omega) fun v4 w4 ho hg _ =>
    k v4 w4 (Lib.hid (h.put (hm ▸ ho) hg))
end
theorem G1.made (h : G1 w0 b x v 64 w) : ∃ g cap, v = .slice (some ⟨g, 0, none⟩) 64 cap ∧ G2 w0 b x g x.may w := by
  have ho := h.own
  have n1 : ((List.range 64).map x.may).length = 64 := by simp
  rcases ho.shape with ⟨_, e⟩ | ⟨g, cap, e, hbg⟩
  · rw [e] at n1; cases n1
  rw [n1] at e
  subst e
  refine ⟨g, cap, rfl, h.one, ?_, hbg⟩
  obtain ⟨cs, hcs⟩ := own_blk ho (b := g) rfl
  refine Ar.of hcs (by decide) fun d hd => ?_
  have := OwnS.cell (fc := fcB) (z := 1) (fun _ => rfl) ho d (x.may d) (by simp [hd]) 0 (by decide)
  rwa [Nat.one_mul, Nat.add_zero] at this
theorem G2.step (h : G2 w0 b x g r w) (hq : P w' b y) (hc : Chg (Bs b) w w') : G2 w0 b y g r w' :=
  ⟨h.one.step hq hc, h.ar.other hc (h.ar.ne h.one.q.ar (by decide)), h.lo⟩
theorem G2.del (h : G2 w0 b x g r w) (d : Nat) : G2 w0 b x g (upd r d false) (w.setCell ⟨g, d, none⟩ (.bool false)) := by
  have hs := Chg.set (S := Bs g) g d (.bool false) rfl w
  refine ⟨⟨h.one.q.other hs (h.one.q.ar.ne h.ar (by decide)), h.one.lo, hs.below h.one.below h.one.below.size fun _ e => e ▸ h.lo⟩, h.ar.set d _ fun j _ => ?_, h.lo⟩
  show Value.bool (if j = d then false else r j) = _
  split <;> rfl
theorem pd_yes (h : y.least < 64) : y.pd = y.who := if_neg (by omega)
theorem pb_yes (h : y.least < 64) : y.pb = true := decide_eq_true (by omega)
theorem pd_no (h : y.least = 64) : y.pd = 0 := if_pos h
theorem pb_no (h : y.least = 64) : y.pb = false := decide_eq_false fun e => e h
end
end Go.Proofs.Ytiicgfkcjpeiiaa.Pi
namespace Go.Proofs.Ytiicgfkcjpeiiaa.prioFair
open Go.RowKit Go.Proofs.Ytiicgfkcjpeiiaa.Base Go.Proofs.Ytiicgfkcjpeiiaa.Mem Go.Proofs.Ytiicgfkcjpeiiaa.Cr Go.Proofs.Ytiicgfkcjpeiiaa.Pi
set_option maxHeartbeats 8000000 in
set_option maxRecDepth 100000 in
theorem all (oa : Option Addr) (n cap : Nat) (F : Nat → Ct) (w : World) (hA : ArgS 4 cc CFit w oa n F) :
    Calls Try.prog 4 #[.slice oa n cap] w fun e w' => e = .returned (.bool true) ∧ Below w.heap.size w w' := by
  have CW := Lib.hid fworks
  by_cases h120 : 100 < n
  · have h1 : (100 : Int) < (n : Int) := by omega
    have h2 : decide ((100 : Int) < (n : Int)) = true := decide_eq_true h1
    clear hA
    go_enter Try.func4, Try.ntmps4
    go_wp2_with fail
    refine (CW.out _).mono ?_
    rintro _ w9 ⟨rfl, hb⟩
    have HB9 := Lib.hid hb
    clear hb CW
    go_wp2
    go_ret
    exact ⟨rfl, HB9.out⟩
  have h1 : ¬ (100 : Int) < (n : Int) := by omega
  have h2 : decide ((100 : Int) < (n : Int)) = false := decide_eq_false h1
  have CP := Lib.hid (fplayed oa n cap F (by unfold maxLen; omega) w w hA (Below.refl _ _))
  clear h120 hA
  go_enter Try.func4, Try.ntmps4
  go_wp2_with fail
  refine CP.out.mono ?_
  rintro _ w1 ⟨rfl, hp⟩
  have HG := Lib.hid (G1.start hp)
  have HX := Lib.hid (run_ok F n)
  clear hp CP
  generalize w.heap.size = b at HG ⊢
  generalize run F n = x at HG HX
  go_wp2_with fail
  go_loopg [4, 5, 6] 64 (fun gm s v s6 wr => ∃ (d c : Nat), s = nm c ∧ s6 = nm d ∧ 64 - d ≤ gm ∧ d ≤ 64 ∧ Hid (cnt x.may d = c) ∧ Hid (G1 w b x v d wr))
  case atStart => exact ⟨0, 0, rfl, rfl, by omega, by omega, Lib.hid rfl, HG⟩
  case round =>
    clear HG
    obtain ⟨d, c, rfl, rfl, hgm, hd64, HC, HG⟩ := hrel
    by_cases hlt : d < 64
    · have t1 : decide ((d : Int) < 64) = true := decide_eq_true (by omega)
      have t2 : (d : Int) < 64 := by omega
      have vd := wrap_nat (d + 1) (by omega)
      have ud := wrap_u8 d (by omega)
      have hc64 : c ≤ 64 := by have := cnt_le x.may d; have := HC.out; omega
      have vc := wrap_nat (c + 1) (by omega)
      have CM := fM d wr HG.out.one.q
      have HN : Hid (cnt x.may (d + 1) = c + if x.may d then 1 else 0) := Lib.hid (by rw [← HC.out]; rfl)
      obtain ⟨m, hm⟩ : ∃ m, x.may d = m := ⟨_, rfl⟩
      rw [hm] at CM HN
      have CM := Lib.hid CM
      have HM := Lib.hid hm
      have HL := Lib.hid hlt
      clear hm
      go_wp2_with fail
      refine CM.out.mono ?_
      rintro _ _ ⟨rfl, nq, rfl⟩
      have HG2 := Lib.hid (HG.out.drewN nq)
      clear CM HG
      generalize wr.drewN nq = w2 at HG2 ⊢
      cases m with
      | true =>
        go_wp2_with (at_builtin; refine HG2.out.app true HM.out HL.out rfl rfl rfl rfl ?_; intro v4 w4 h1; have HG3 := h1; clear h1)
        go_roundg (64 - (d + 1))
        case measure => omega
        case rel => exact ⟨d + 1, c + 1, by first | rfl | go_num, by first | rfl | go_num, Nat.le_refl _, by omega, HN, HG3⟩
      | false =>
        go_wp2_with (at_builtin; refine HG2.out.app false HM.out HL.out rfl rfl rfl rfl ?_; intro v4 w4 h1; have HG3 := h1; clear h1)
        go_roundg (64 - (d + 1))
        case measure => omega
        case rel => exact ⟨d + 1, c, rfl, by first | rfl | go_num, Nat.le_refl _, by omega, HN, HG3⟩
    · obtain rfl : d = 64 := by omega
      obtain ⟨g, cp, rfl, hg2⟩ := HG.out.made
      have HG2 := Lib.hid hg2
      have HL := Lib.hid (Pi.Left.start x)
      have hc64 : c ≤ 64 := by have := cnt_le x.may 64; have := HC.out; omega
      clear HG hg2
      go_wp2_with fail
      go_loopg [8] c (fun gm s wq => ∃ (i : Nat) (y : St) (r : Nat → Bool), s = nm i ∧ c - i ≤ gm ∧ i ≤ c ∧ Hid (cnt r 64 = c - i) ∧ Hid (∀ e, y.may e = x.may e) ∧ Hid y.Ok ∧ Hid (Pi.Left y r) ∧ Hid (G2 w b y g r wq))
      case atStart => exact ⟨0, x, x.may, rfl, by omega, by omega, Lib.hid HC.out, Lib.hid (fun _ => rfl), HX, HL, HG2⟩
      case round =>
        clear HG2 HL
        obtain ⟨i, y, r, rfl, hgm2, hic, HR, HY, HO, HL, HG⟩ := hrel
        by_cases hlt2 : i < c
        · have t3 : decide ((i : Int) < (c : Int)) = true := decide_eq_true (by omega)
          have t4 : (i : Int) < (c : Int) := by omega
          have vi := wrap_nat (i + 1) (by omega)
          obtain ⟨e, he64, he⟩ := cnt_some r 64 (by have := HR.out; omega)
          have HN := Lib.hid (HL.out.next HO.out he)
          have hle := may_least HO.out (HL.out.may e he)
          have CP := Lib.hid (fpick_at HG.out.one.q y.who (pd_yes hle) true (pb_yes hle))
          have hw := who_lt y
          have HRC : Hid (cnt (upd r y.who false) 64 = c - (i + 1)) := Lib.hid (by have := cnt_del r y.who HN.out.1 64 hw; have := HR.out; omega)
          have HN2 := Lib.hid HN.out.2
          have HN1 := Lib.hid HN.out.1
          have HY2 : Hid (∀ e, y.pick.may e = x.may e) := Lib.hid (fun e => (pick_may y e).trans (HY.out e))
          have HO2 := Lib.hid HO.out.pick
          clear he he64 hle HN
          generalize y.who = q at CP hw HRC HN2 HN1
          have s0 : decide ((63 : Int) < (q : Int)) = false := decide_eq_false (by omega)
          have s1 : ¬ (63 : Int) < (q : Int) := by omega
          have s2 : (q : Int) < 64 := by omega
          go_wp2_with fail
          refine CP.out.mono ?_
          rintro _ w3 ⟨rfl, hp, hc⟩
          have HG2 := Lib.hid (HG.out.step hp hc)
          clear hp hc CP HG
          have c0 := HG2.out.ar.cell hw
          simp only [HN1.out] at c0
          have hf := HG2.out.ar.free
          have hl := HG2.out.ar.lt
          have HG3 := Lib.hid (HG2.out.del q)
          go_wp2_with fail
          clear c0 hf hl HG2
          generalize w3.setCell ⟨g, q, none⟩ (.bool false) = w4 at HG3 ⊢
          go_roundg (c - (i + 1))
          case measure => omega
          case rel => exact ⟨i + 1, y.pick, _, by first | rfl | go_num, Nat.le_refl _, by omega, HRC, HY2, HO2, HN2, HG3⟩
        · have t3 : decide ((i : Int) < (c : Int)) = false := decide_eq_false (by omega)
          have t4 : ¬ (i : Int) < (c : Int) := by omega
          by_cases hc0 : c = 0
          · have hle : y.least = 64 := none_least fun m hm => by
              rw [HY.out]; exact cnt_zero x.may 64 (by rw [HC.out]; exact hc0) m hm
            have CP := Lib.hid (fpick_at HG.out.one.q 0 (pd_no hle) false (pb_no hle))
            subst hc0
            clear hle
            go_wp2_with fail
            refine CP.out.mono ?_
            rintro _ w3 ⟨rfl, hp, hc⟩
            have HG2 := Lib.hid (HG.out.step hp hc)
            clear hp hc CP HG
            go_wp2_with fail
            refine (CW.out _).mono ?_
            rintro _ w9 ⟨rfl, hb⟩
            have HB9 := Lib.hid (HG2.out.one.on hb)
            clear hb CW HG2
            go_wp2
            go_ret
            exact ⟨rfl, HB9.out.below⟩
          · have e0 : ((c : Int) == 0) = false := beq_false (by omega)
            have e1 : ¬ (c : Int) = 0 := by omega
            go_wp2_with fail
            refine (CW.out _).mono ?_
            rintro _ w9 ⟨rfl, hb⟩
            have HB9 := Lib.hid (HG.out.one.on hb)
            clear hb CW HG
            go_wp2
            go_ret
            exact ⟨rfl, HB9.out.below⟩
theorem law (oa : Option Addr) (n cap : Nat) (F : Nat → Ct) (_ : n ≤ maxLen) (w : World) (hA : ArgS 4 cc CFit w oa n F) :
    Calls Try.prog 4 #[.slice oa n cap] w fun e w' => e = .returned (.bool true) ∧ Below w.heap.size w w' := all oa n cap F w hA
end Go.Proofs.Ytiicgfkcjpeiiaa.prioFair

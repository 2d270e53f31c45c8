/-
  ArqEnds answers true at steps of which the mathematics says that they come to an end. Conditions: at most 200 steps; T1 is at most 40; the numbers may be.
-/
import Derived.Test.YtkoaplmlabagnaaTk
import Derived.Test.YtkoaplmlabagnaaAqPairLaw
import Derived.Test.YtkoaplmlabagnaaAqSet
namespace Go.Proofs.Ytkoaplmlabagnaa.Aq
open Go.RowKit Go.Proofs.Ytkoaplmlabagnaa.Base Go.Proofs.Ytkoaplmlabagnaa.Mem
open Go.Proofs.Ytkoaplmlabagnaa.arqPair (pre_below)
/-- A pair behind the first j steps. -/
def runs (F : Nat → Sp) (x : Pr) (j : Nat) : Pr := ((List.range j).map F).foldl (fun x s => pStep s x) x
theorem runs_succ (F : Nat → Sp) (x : Pr) (j : Nat) : runs F x (j + 1) = pStep (F j) (runs F x j) := by
  unfold runs
  rw [List.range_succ, List.map_append, List.foldl_append]
  rfl
theorem ticks_more (m : Nat) (y r : Pr) (h : ticks (m + 1) y = (r, true)) : ∃ z, settle 5000 y = (z, true) ∧ ticks m (pTick z) = (r, true) := by
  unfold ticks at h
  split at h
  · rename_i hs
    exact ⟨_, Prod.ext rfl hs, h⟩
  · cases h
/-- What ArqEnds looks at in the end. -/
def Fin (r : Pr) : Prop := r.A.fl = true ∨ r.B.fl = true ∨ (r.A.p.length = r.A.a ∧ r.B.p.length = r.B.a ∧ r.k0 = r.u0 ∧ r.k1 = r.u1)
theorem ends_of {k n2 t1 : Nat} {l : List Sp} (h : ends k n2 t1 l = true) : ∃ r, ticks (t1 + 2) (idle (l.foldl (fun x s => pStep s x) (newP k n2 t1))) = (r, true) ∧ Fin r := by
  unfold ends at h
  dsimp only at h
  simp only [Bool.and_eq_true, Bool.or_eq_true, decide_eq_true_eq] at h
  obtain ⟨h1, h2⟩ := h
  refine ⟨_, Prod.ext rfl h1, ?_⟩
  rcases h2 with (h2 | h2) | ⟨⟨⟨h2, h3⟩, h4⟩, h5⟩
  · exact Or.inl h2
  · exact Or.inr (Or.inl h2)
  · exact Or.inr (Or.inr ⟨h2, h3, h4, h5⟩)
/-- What a side tells, in letters. -/
theorem vw_letters (x : Sd) : ∃ (a s g w o t l : Int) (b c d e f h : Bool), vwv (Ps.of x) = .agg #[.int .u8 a, .int .u8 s, .int .u8 g, .int .i64 w, .int .i64 o, .int .i64 t, .int .i64 l, .bool b, .bool c, .bool d, .bool e, .bool f, .bool h] ∧ h = x.fl ∧ (x.p.length = x.a → w = 0) := by
  refine ⟨_, _, _, _, _, _, _, _, _, _, _, _, _, rfl, rfl, fun h => ?_⟩
  show (((x.p.drop x.a).length : Nat) : Int) = 0
  rw [List.length_drop]
  omega
theorem Blks.on {w0 W W' : World} {l : List (Option (Nat × Obj))} (h : Blks w0 W l) (hb : Below W.heap.size W W') : Blks w0 W' l :=
  ⟨below_on h.below hb, fun b u hm => ⟨(h.at_ b u hm).1, stays (h.at_ b u hm).2 hb⟩, h.apart⟩
theorem gen_tmps {P : Program} {md : Region.Mode} {ops : Array Oper} {Q : Exit → Act → World → Prop} {S : World → Prop} {n : Nat} {L : Array Bool} {T0 : Array Value} {ds : List Deferred} {W : World} (h : ∀ T, T = T0 → wpAnyH P md ops Q S n L ⟨T, ds⟩ W) : wpAnyH P md ops Q S n L ⟨T0, ds⟩ W := h _ rfl
/-- Which of the views were told, and which of their blocks there are. -/
structure Vst where
  d0 : Bool
  d1 : Bool
  o0 : Option Nat
  o1 : Option Nat
def Vst.left (s : Vst) : Nat := (!s.d0).toNat + (!s.d1).toNat + s.o0.isNone.toNat + s.o1.isNone.toNat
def Vst.l (s : Vst) : List (Option (Nat × Obj)) := [s.o0.map fun b => (b, noV), s.o1.map fun b => (b, noV)]
def vd : Bool → Value → Value
  | true, v => v
  | false, _ => undef
structure VAt (w : World) (s : Vst) (W : World) : Prop where
  c : s.d1 = true → s.d0 = true
  b : Blks w W s.l
theorem set13_other {w : World} {b n : Nat} (hn : n ≠ b) (v0 v1 v2 v3 v4 v5 v6 v7 v8 v9 v10 v11 v12 : Value) : (((((((((((((w.setCell ⟨b, 0, none⟩ (v0)).setCell ⟨b, 1, none⟩ (v1)).setCell ⟨b, 2, none⟩ (v2)).setCell ⟨b, 3, none⟩ (v3)).setCell ⟨b, 4, none⟩ (v4)).setCell ⟨b, 5, none⟩ (v5)).setCell ⟨b, 6, none⟩ (v6)).setCell ⟨b, 7, none⟩ (v7)).setCell ⟨b, 8, none⟩ (v8)).setCell ⟨b, 9, none⟩ (v9)).setCell ⟨b, 10, none⟩ (v10)).setCell ⟨b, 11, none⟩ (v11)).setCell ⟨b, 12, none⟩ (v12)).heap[n]? = w.heap[n]? := by
  have e : ∀ (w : World) (i : Nat) (v : Value), (w.setCell ⟨b, i, none⟩ v).heap[n]? = w.heap[n]? := fun w i v => Below.heap_setCell w _ _ _ hn
  simp only [e]
set_option maxHeartbeats 16000000 in
set_option maxRecDepth 100000 in
theorem fends (K N2 T1 : Nat) (hm : 1 ≤ K ∧ K ≤ 7 ∧ N2 ≤ 255 ∧ 1 ≤ T1 ∧ T1 ≤ 40) (oa : Option Addr) (n cap : Nat) (F : Nat → Sp) (hn : n ≤ 200) (w : World) (hA : ArgS 3 sc SpFit w oa n F) (he : ends K N2 T1 ((List.range n).map F) = true) :
    Calls Try.prog 21 #[.int .i64 (K : Int), .int .i64 (N2 : Int), .int .i64 (T1 : Int), .slice oa n cap] w fun e w' => e = .returned (.bool true) ∧ Below w.heap.size w w' := by
  have HA := Lib.hid hA
  obtain ⟨r, hr, hfin⟩ := ends_of he
  have HR : Hid (ticks (T1 + 2) (idle (runs F (newP K N2 T1) n)) = (r, true)) := Lib.hid hr
  have HF := Lib.hid hfin
  clear hA he hr hfin
  have h1 : ¬ (200 : Int) < (n : Int) := by omega
  have h2 : decide ((200 : Int) < (n : Int)) = false := decide_eq_false h1
  have h3 : decide (200 < n) = false := decide_eq_false (by omega)
  have h4 : decide ((40 : Int) < (T1 : Int)) = false := decide_eq_false (by omega)
  have h5 : decide (40 < T1) = false := decide_eq_false (by omega)
  have CM : Hid (Calls Try.prog 15 #[.int .i64 (K : Int), .int .i64 (N2 : Int), .int .i64 (T1 : Int)] w fun e w' => e = .returned (.bool true) ∧ w = w') := by
    have := fmay15 K N2 T1 w
    rw [decide_eq_true (show 1 ≤ (K : Int) ∧ (K : Int) ≤ 7 ∧ 0 ≤ (N2 : Int) ∧ (N2 : Int) ≤ 255 ∧ 1 ≤ (T1 : Int) ∧ (T1 : Int) ≤ 255 by omega)] at this
    exact Lib.hid this
  have CN := Lib.hid (fnewPair K N2 T1 (by unfold mayN; omega) w)
  have HO : Hid (Pok 0 0 (newP K N2 T1)) := Lib.hid (newP_pok K N2 T1 (by omega) (by omega) (by omega) (by omega))
  have HT := Lib.hid hm.2.2.2.2
  clear hm
  go_enter Try.func21, Try.ntmps21
  go_wp2_with fail
  refine CM.out.mono ?_
  rintro _ w1 ⟨rfl, rfl⟩
  clear CM
  go_wp2_with fail
  refine CN.out.mono ?_
  rintro _ w2 ⟨b, rfl, hp⟩
  have HP := Lib.hid hp
  clear CN hp h4 h5
  obtain ⟨htb, hba, -⟩ := PrE.held HP.out
  have e0 : w2.cell? ⟨b.tb, 0, none⟩ = some (Aq.two b.ba) := cell_of htb rfl
  have a0 : w2.cell? ⟨b.ba, 0, none⟩ = some (ptr b.p0) := cell_of hba rfl
  have a1 : w2.cell? ⟨b.ba, 1, none⟩ = some (ptr b.p1) := cell_of hba rfl
  clear htb hba
  generalize newP K N2 T1 = x0 at HP HO HR
  go_wp2_with fail
  clear e0 a0 a1
  go_loopg [10] n (fun gm s wq => ∃ (j : Nat), s = nm j ∧ n - j ≤ gm ∧ j ≤ n ∧ Hid (PrE w b (runs F x0 j) wq) ∧ Hid (Pok j j (runs F x0 j)))
  case atStart => exact ⟨0, rfl, by omega, by omega, HP, HO⟩
  case round =>
    clear HP HO
    obtain ⟨j, rfl, hgm2, hjn, HP, HO⟩ := hrel
    by_cases hlt2 : j < n
    · have t3 : decide ((j : Int) < (n : Int)) = true := decide_eq_true (by omega)
      have t4 : (j : Int) < (n : Int) := by omega
      have j1 : (0 : Int) ≤ (j : Int) := by omega
      have vk := wrapn (j + 1) (by omega)
      obtain ⟨a, gb, go, rfl, ha, hgb, hrw⟩ := step_at HA.out hlt2
      obtain ⟨c0, c1, c2⟩ := hrw _ (pre_below HP.out)
      have HRS := Lib.hid (runs_succ F x0 j)
      generalize hs : F j = s at c0 c1 c2 HRS
      obtain ⟨d, side, on⟩ := s
      clear hrw hs
      have CS := Lib.hid (fstep w _ b _ j j HP.out HO.out (by omega) (by omega) d side on)
      have HO2 := Lib.hid (HO.out.step ⟨d, side, on⟩)
      rw [← HRS.out] at CS HO2
      clear HP HO HRS
      go_wp2_with fail
      refine CS.out.mono ?_
      rintro _ w3 ⟨rfl, h3⟩
      have H3 := Lib.hid h3
      clear h3 CS c0 c1 c2
      go_wp2
      go_roundg (n - (j + 1))
      case measure => omega
      case rel => exact ⟨j + 1, by first | rfl | go_num, Nat.le_refl _, by omega, H3, HO2⟩
    · have t3 : decide ((j : Int) < (n : Int)) = false := decide_eq_false (by omega)
      have t4 : ¬ (j : Int) < (n : Int) := by omega
      obtain rfl : j = n := by omega
      clear hlt2 hjn hgm2
      obtain ⟨htb, hba, -⟩ := PrE.held HP.out
      have e0 : wr.cell? ⟨b.tb, 0, none⟩ = some (Aq.two b.ba) := cell_of htb rfl
      have a0 : wr.cell? ⟨b.ba, 0, none⟩ = some (ptr b.p0) := cell_of hba rfl
      have CB := Lib.hid (obusy0 HP.out HO.out false)
      clear htb hba HP
      go_wp2_with fail
      refine CB.out.mono ?_
      rintro _ w3 ⟨rfl, hx, -⟩
      have H3 := Lib.hid hx
      clear hx CB e0 a0
      obtain ⟨htb, hba, -⟩ := PrE.held H3.out
      have e0 : w3.cell? ⟨b.tb, 0, none⟩ = some (Aq.two b.ba) := cell_of htb rfl
      have a1 : w3.cell? ⟨b.ba, 1, none⟩ = some (ptr b.p1) := cell_of hba rfl
      have CB := Lib.hid (obusy1 H3.out (HO.out.busy false) false)
      clear htb hba H3
      go_wp2_with fail
      refine CB.out.mono ?_
      rintro _ w4 ⟨rfl, hx, -⟩
      have H4 : Hid (PrE w b (idle (runs F x0 j)) w4) := Lib.hid hx
      have HK := Lib.hid HO.out.idle
      clear hx CB e0 a1 HO t3 t4
      generalize idle (runs F x0 j) = x1 at H4 HK HR
      go_wp2_with fail
      obtain ⟨T2, hT2⟩ : ∃ T2, T1 + 1 = T2 := ⟨_, rfl⟩
      have hT := HT.out
      have vT : IntKind.i64.wrap ((T1 : Int) + 1) = (T2 : Int) := by rw [IntKind.wrap_i64]; omega
      have HT2 := Lib.hid hT2
      clear hT2 hT
      go_loopg [11] (T2 + 1) (fun gm s wq => ∃ (c : Nat) (y : Pr), s = nm c ∧ T2 + 1 - c ≤ gm ∧ c ≤ T2 + 1 ∧ Hid (PrE w b y wq) ∧ Hid (Pok j j y) ∧ Hid (ticks (T2 + 1 - c) y = (r, true)))
      case atStart => exact ⟨0, x1, rfl, by omega, by omega, H4, HK, by rw [← HT2.out]; exact HR⟩
      case round =>
        clear H4 HK HR x1
        obtain ⟨c, y, rfl, hgm3, hc, HP, HO, HR⟩ := hrel
        by_cases hlt3 : c < T2 + 1
        · have t3 : decide ((c : Int) ≤ (T2 : Int)) = true := decide_eq_true (by omega)
          have t3b : decide (c ≤ T2) = true := decide_eq_true (by omega)
          have t4 : (c : Int) ≤ (T2 : Int) := by omega
          have vk := wrapn (c + 1) (by have := HT.out; have := HT2.out; omega)
          have HLT := Lib.hid hlt3
          have hc9 : c ≤ 41 := by have := HT.out; have := HT2.out; omega
          have HR2 := HR.out
          rw [show T2 + 1 - c = (T2 + 1 - (c + 1)) + 1 by omega] at HR2
          obtain ⟨z, hz, hr2⟩ := ticks_more _ _ _ HR2
          have HO2 : Hid (Pok j j z) := by
            have := HO.out.settle 5000
            rw [hz] at this
            exact Lib.hid this
          have HQ := Lib.hid hr2
          have CS := Lib.hid (fsettle w _ b y j j HP.out HO.out (by omega) (by omega) z hz)
          clear HR2 HR hz hr2 HP HO
          go_wp2_with fail
          refine CS.out.mono ?_
          rintro _ w5 ⟨rfl, hx⟩
          have CT := Lib.hid (oright hx HO2.out (by omega))
          clear hx CS
          go_wp2_with fail
          refine CT.out.mono ?_
          rintro _ w6 ⟨rfl, hx⟩
          have H6 := Lib.hid hx
          clear hx CT
          obtain ⟨htb, hba, -⟩ := PrE.held H6.out
          have e0 : w6.cell? ⟨b.tb, 0, none⟩ = some (Aq.two b.ba) := cell_of htb rfl
          have a0 : w6.cell? ⟨b.ba, 0, none⟩ = some (ptr b.p0) := cell_of hba rfl
          have CS := Lib.hid (otick0 H6.out HO2.out.a)
          clear htb hba H6
          generalize amv (tick z.A).2 = av at CS
          go_wp2_with fail
          refine CS.out.mono ?_
          rintro _ w7 ⟨rfl, hx⟩
          have H7 := Lib.hid hx
          clear hx CS e0 a0
          obtain ⟨htb, hba, -⟩ := PrE.held H7.out
          have e0 : w7.cell? ⟨b.tb, 0, none⟩ = some (Aq.two b.ba) := cell_of htb rfl
          have a1 : w7.cell? ⟨b.ba, 1, none⟩ = some (ptr b.p1) := cell_of hba rfl
          have CS := Lib.hid (otick1 H7.out HO2.out.b)
          clear htb hba H7
          generalize amv (tick _).2 = av2 at CS
          go_wp2_with fail
          refine CS.out.mono ?_
          rintro _ w8 ⟨rfl, hx⟩
          have H8 : Hid (PrE w b (pTick z) w8) := Lib.hid hx
          have HO3 := Lib.hid HO2.out.tick
          clear hx CS e0 a1 HO2
          go_wp2
          go_roundg (T2 + 1 - (c + 1))
          case measure => omega
          case rel => exact ⟨c + 1, _, by first | rfl | go_num, Nat.le_refl _, Nat.succ_le_of_lt HLT.out, H8, HO3, HQ⟩
        · have t3 : decide ((c : Int) ≤ (T2 : Int)) = false := decide_eq_false (by omega)
          have t3b : decide (c ≤ T2) = false := decide_eq_false (by omega)
          have t4 : ¬ (c : Int) ≤ (T2 : Int) := by omega
          have HR2 := HR.out
          rw [show T2 + 1 - c = 0 by omega] at HR2
          have hz : settle 5000 y = (r, true) := HR2
          have HO2 : Hid (Pok j j r) := by
            have := HO.out.settle 5000
            rw [hz] at this
            exact Lib.hid this
          have CS := Lib.hid (fsettle w _ b y j j HP.out HO.out (by omega) (by omega) r hz)
          clear HR2 HR hz HP HO hlt3 hc hgm3
          go_wp2_with fail
          refine CS.out.mono ?_
          rintro _ w5 ⟨rfl, hx⟩
          have CT := Lib.hid (oright hx HO2.out (by omega))
          clear hx CS
          go_wp2_with fail
          refine CT.out.mono ?_
          rintro _ w6 ⟨rfl, hx⟩
          have H6 := Lib.hid hx
          clear hx CT
          obtain ⟨xa, xs, xg, xw, xo, xt, xl, xb, xc, xd, xe, xf, xh, hvx, hfx, hwx⟩ := vw_letters r.A
          obtain ⟨ya, ys, yg, yw, yo, yt, yl, yb, yc, yd, ye, yf, yh, hvy, hfy, hwy⟩ := vw_letters r.B
          have C0 : Hid (∀ w', PrE w b r w' → Calls Try.prog 12 #[ptr b.p0] w' fun e w'' => e = .returned (.agg #[.int .u8 xa, .int .u8 xs, .int .u8 xg, .int .i64 xw, .int .i64 xo, .int .i64 xt, .int .i64 xl, .bool xb, .bool xc, .bool xd, .bool xe, .bool xf, .bool xh]) ∧ Below w'.heap.size w' w'') := Lib.hid (fun w' hw => by
            obtain ⟨q0, q1, v0, v1, tag, hw⟩ := hw
            have := fview w' b.p0 _ _ hw.s0 HO2.out.a.pfit
            rw [hvx] at this
            exact this)
          have C1 : Hid (∀ w', PrE w b r w' → Calls Try.prog 12 #[ptr b.p1] w' fun e w'' => e = .returned (.agg #[.int .u8 ya, .int .u8 ys, .int .u8 yg, .int .i64 yw, .int .i64 yo, .int .i64 yt, .int .i64 yl, .bool yb, .bool yc, .bool yd, .bool ye, .bool yf, .bool yh]) ∧ Below w'.heap.size w' w'') := Lib.hid (fun w' hw => by
            obtain ⟨q0, q1, v0, v1, tag, hw⟩ := hw
            have := fview w' b.p1 _ _ hw.s1 HO2.out.b.pfit
            rw [hvy] at this
            exact this)
          have HX : Hid (Fin r ∧ (xh = r.A.fl ∧ (r.A.p.length = r.A.a → xw = 0)) ∧ (yh = r.B.fl ∧ (r.B.p.length = r.B.a → yw = 0))) := Lib.hid ⟨HF.out, ⟨hfx, hwx⟩, ⟨hfy, hwy⟩⟩
          clear hvx hfx hwx hvy hfy hwy HF HO2 HA HT HT2 t3 t3b t4 vT h1 h2 h3 hn
          go_wp2_with fail
          have H7 := Lib.hid (H6.out.on (w' := w6.drew) ⟨rfl, rfl, rfl, Nat.le_refl _, fun _ _ => rfl⟩)
          clear H6
          refine wp_region_held_drew (S := (fun w' => w'.heap[b.tb]? = some (.cells #[Aq.two b.ba, Aq.two b.bl, Aq.two b.bu, Aq.two b.bk, .bool r.bad] 46 (0, 0)) ∧ w'.heap[b.ba]? = some (.cells #[ptr b.p0, ptr b.p1] 28 (0, 0)))) (by kernel_rfl) ⟨H7.out.held.1, H7.out.held.2.1⟩ (fun hHeld => ?_)
          refine' tk 0 ⟨some 112, .move (.tmp 9), 40, "law.go:252", #[], none⟩ ?_
          simp only [Act.put, z1', z2', z3']
          refine' tk 1 ⟨some 113, .nilCheck (.tmp 112), 0, "law.go:252", #[⟨0, .data⟩], none⟩ ?_
          simp only [Act.put, z1', z2', z3']
          refine' tk 2 ⟨some 114, .fieldAddr 46 (.tmp 113) 0, 0, "law.go:252", #[⟨1, .data⟩], none⟩ ?_
          simp only [Act.put, z1', z2', z3']
          refine' tv 3 ⟨some 115, .load 42 (.tmp 114), 42, "law.go:252", #[⟨2, .data⟩], none⟩ ?hy4 ?hr4
          case hy4 => (intro _ hSw; (try dsimp only at hSw); have hc := cell_of (i := 0) (v := Aq.two b.ba) hSw.1 rfl; go_simp <;> with_reducible rfl)
          simp only [Act.put, z1', z2', z3']
          refine' tk 4 ⟨some 116, .indexAddr 42 (.tmp 115) (.const (.int .i64 0)), 0, "law.go:252", #[⟨3, .data⟩], none⟩ ?_
          simp only [Act.put, z1', z2', z3']
          refine' tv 5 ⟨some 117, .load 28 (.tmp 116), 28, "law.go:252", #[⟨4, .data⟩], none⟩ ?hy6 ?hr6
          case hy6 => (intro _ hSw; (try dsimp only at hSw); have hc := cell_of (i := 0) (v := ptr b.p0) hSw.2 rfl; go_simp <;> with_reducible rfl)
          simp only [Act.put, z1', z2', z3']
          refine' tk 7 ⟨some 119, .move (.tmp 9), 40, "law.go:252", #[], none⟩ ?_
          simp only [Act.put, z1', z2', z3']
          refine' tk 8 ⟨some 120, .nilCheck (.tmp 119), 0, "law.go:252", #[⟨7, .data⟩], none⟩ ?_
          simp only [Act.put, z1', z2', z3']
          refine' tk 9 ⟨some 121, .fieldAddr 46 (.tmp 120) 0, 0, "law.go:252", #[⟨8, .data⟩], none⟩ ?_
          simp only [Act.put, z1', z2', z3']
          refine' tv 10 ⟨some 122, .load 42 (.tmp 121), 42, "law.go:252", #[⟨9, .data⟩], none⟩ ?hy10 ?hr10
          case hy10 => (intro _ hSw; (try dsimp only at hSw); have hc := cell_of (i := 0) (v := Aq.two b.ba) hSw.1 rfl; go_simp <;> with_reducible rfl)
          simp only [Act.put, z1', z2', z3']
          refine' tk 11 ⟨some 123, .indexAddr 42 (.tmp 122) (.const (.int .i64 1)), 0, "law.go:252", #[⟨10, .data⟩], none⟩ ?_
          simp only [Act.put, z1', z2', z3']
          refine' tv 12 ⟨some 124, .load 28 (.tmp 123), 28, "law.go:252", #[⟨11, .data⟩], none⟩ ?hy12 ?hr12
          case hy12 => (intro _ hSw; (try dsimp only at hSw); have hc := cell_of (i := 1) (v := ptr b.p1) hSw.2 rfl; go_simp <;> with_reducible rfl)
          simp only [Act.put, z1', z2', z3']
          clear hHeld
          generalize w6.drew = w7 at H7 ⊢
          refine gen_tmps (fun T hT => ?_)
          have hA0 : ((((T.setIfInBounds 118 undef).setIfInBounds 125 undef).setIfInBounds 12 undef).setIfInBounds 13 undef) = T := by
            subst hT
            rfl
          rw [← hA0]
          clear hA0
          refine region_states Vst.left (fun s => #[true, true, true, true, true, true, s.d0, true, true, true, true, true, true, s.d1, s.o0.isSome, s.o1.isSome, false, false])
            (fun s => ⟨((((T.setIfInBounds 118 (vd s.d0 (.agg #[.int .u8 xa, .int .u8 xs, .int .u8 xg, .int .i64 xw, .int .i64 xo, .int .i64 xt, .int .i64 xl, .bool xb, .bool xc, .bool xd, .bool xe, .bool xf, .bool xh]))).setIfInBounds 125 (vd s.d1 (.agg #[.int .u8 ya, .int .u8 ys, .int .u8 yg, .int .i64 yw, .int .i64 yo, .int .i64 yt, .int .i64 yl, .bool yb, .bool yc, .bool yd, .bool ye, .bool yf, .bool yh]))).setIfInBounds 12 (va s.o0)).setIfInBounds 13 (va s.o1)), []⟩) (VAt w7) 2 ?hstep ?hend 4 ⟨false, false, none, none⟩ _ rfl ⟨(fun e => by cases e), ⟨Below.refl _ _, (fun b o hb => by simp [Vst.l] at hb), fun i j b o o' hi hj => by
              have := List.mem_of_getElem? hi
              simp [Vst.l] at this⟩⟩
          case hstep =>
            subst hT
            rintro m ⟨d0, d1, o0, o1⟩ W hc ⟨hc1, hG⟩ ih
            have HW := Lib.hid (H7.out.on hG.below)
            rcases d0 with _ | _ <;> rcases d1 with _ | _ <;> rcases o0 with _ | b0 <;> rcases o1 with _ | b1
            · simp only [vd, va, Option.isSome, z1', z2', z3']
              refine ry [6, 14, 15] ?_
              refine AllReadyH.cons rfl (fun K hK => ?_) (AllReadyH.cons rfl (fun K hK => ?_) (AllReadyH.cons rfl (fun K hK => ?_) (AllReadyH.nil)))
              · go_simp
                refine (C0.out _ HW.out).mono ?_
                rintro _ W2 ⟨rfl, hb⟩
                go_wp2_with fail
                refine hK.out _ _ ⟨(HW.out.on hb).held.1, (HW.out.on hb).held.2.1⟩ (fun _ => ?_)
                have hi := ih ⟨true, false, none, none⟩ _ (Nat.succ.inj hc) ⟨(fun _ => rfl), hG.on hb⟩
                simp only [vd, va, Option.isSome, z1', z2', z3'] at hi
                exact hi
              · go_simp
                have hb : Below W.heap.size W (W.alloc noV) := nest_below W [_]
                refine hK.out _ _ ⟨(HW.out.on hb).held.1, (HW.out.on hb).held.2.1⟩ (fun _ => ?_)
                have hi := ih ⟨false, false, (some W.heap.size), none⟩ _ (Nat.succ.inj hc) ⟨hc1, hG.step hb (nest W [_] 0 _ rfl) 0⟩
                simp only [vd, va, Option.isSome, z1', z2', z3'] at hi
                exact hi
              · go_simp
                have hb : Below W.heap.size W (W.alloc noV) := nest_below W [_]
                refine hK.out _ _ ⟨(HW.out.on hb).held.1, (HW.out.on hb).held.2.1⟩ (fun _ => ?_)
                have hi := ih ⟨false, false, none, (some W.heap.size)⟩ _ (Nat.succ.inj hc) ⟨hc1, hG.step hb (nest W [_] 0 _ rfl) 1⟩
                simp only [vd, va, Option.isSome, z1', z2', z3'] at hi
                exact hi
            · simp only [vd, va, Option.isSome, z1', z2', z3']
              refine ry [6, 14] ?_
              refine AllReadyH.cons rfl (fun K hK => ?_) (AllReadyH.cons rfl (fun K hK => ?_) (AllReadyH.nil))
              · go_simp
                refine (C0.out _ HW.out).mono ?_
                rintro _ W2 ⟨rfl, hb⟩
                go_wp2_with fail
                refine hK.out _ _ ⟨(HW.out.on hb).held.1, (HW.out.on hb).held.2.1⟩ (fun _ => ?_)
                have hi := ih ⟨true, false, none, (some b1)⟩ _ (Nat.succ.inj hc) ⟨(fun _ => rfl), hG.on hb⟩
                simp only [vd, va, Option.isSome, z1', z2', z3'] at hi
                exact hi
              · go_simp
                have hb : Below W.heap.size W (W.alloc noV) := nest_below W [_]
                refine hK.out _ _ ⟨(HW.out.on hb).held.1, (HW.out.on hb).held.2.1⟩ (fun _ => ?_)
                have hi := ih ⟨false, false, (some W.heap.size), (some b1)⟩ _ (Nat.succ.inj hc) ⟨hc1, hG.step hb (nest W [_] 0 _ rfl) 0⟩
                simp only [vd, va, Option.isSome, z1', z2', z3'] at hi
                exact hi
            · simp only [vd, va, Option.isSome, z1', z2', z3']
              refine ry [6, 15] ?_
              refine AllReadyH.cons rfl (fun K hK => ?_) (AllReadyH.cons rfl (fun K hK => ?_) (AllReadyH.nil))
              · go_simp
                refine (C0.out _ HW.out).mono ?_
                rintro _ W2 ⟨rfl, hb⟩
                go_wp2_with fail
                refine hK.out _ _ ⟨(HW.out.on hb).held.1, (HW.out.on hb).held.2.1⟩ (fun _ => ?_)
                have hi := ih ⟨true, false, (some b0), none⟩ _ (Nat.succ.inj hc) ⟨(fun _ => rfl), hG.on hb⟩
                simp only [vd, va, Option.isSome, z1', z2', z3'] at hi
                exact hi
              · go_simp
                have hb : Below W.heap.size W (W.alloc noV) := nest_below W [_]
                refine hK.out _ _ ⟨(HW.out.on hb).held.1, (HW.out.on hb).held.2.1⟩ (fun _ => ?_)
                have hi := ih ⟨false, false, (some b0), (some W.heap.size)⟩ _ (Nat.succ.inj hc) ⟨hc1, hG.step hb (nest W [_] 0 _ rfl) 1⟩
                simp only [vd, va, Option.isSome, z1', z2', z3'] at hi
                exact hi
            · simp only [vd, va, Option.isSome, z1', z2', z3']
              refine ry [6] ?_
              refine AllReadyH.cons rfl (fun K hK => ?_) (AllReadyH.nil)
              · go_simp
                refine (C0.out _ HW.out).mono ?_
                rintro _ W2 ⟨rfl, hb⟩
                go_wp2_with fail
                refine hK.out _ _ ⟨(HW.out.on hb).held.1, (HW.out.on hb).held.2.1⟩ (fun _ => ?_)
                have hi := ih ⟨true, false, (some b0), (some b1)⟩ _ (Nat.succ.inj hc) ⟨(fun _ => rfl), hG.on hb⟩
                simp only [vd, va, Option.isSome, z1', z2', z3'] at hi
                exact hi
            · exact absurd (hc1 rfl) Bool.false_ne_true
            · exact absurd (hc1 rfl) Bool.false_ne_true
            · exact absurd (hc1 rfl) Bool.false_ne_true
            · exact absurd (hc1 rfl) Bool.false_ne_true
            · simp only [vd, va, Option.isSome, z1', z2', z3']
              refine ry [13, 14, 15] ?_
              refine AllReadyH.cons rfl (fun K hK => ?_) (AllReadyH.cons rfl (fun K hK => ?_) (AllReadyH.cons rfl (fun K hK => ?_) (AllReadyH.nil)))
              · go_simp
                refine (C1.out _ HW.out).mono ?_
                rintro _ W2 ⟨rfl, hb⟩
                go_wp2_with fail
                refine hK.out _ _ ⟨(HW.out.on hb).held.1, (HW.out.on hb).held.2.1⟩ (fun _ => ?_)
                have hi := ih ⟨true, true, none, none⟩ _ (Nat.succ.inj hc) ⟨(fun _ => rfl), hG.on hb⟩
                simp only [vd, va, Option.isSome, z1', z2', z3'] at hi
                exact hi
              · go_simp
                have hb : Below W.heap.size W (W.alloc noV) := nest_below W [_]
                refine hK.out _ _ ⟨(HW.out.on hb).held.1, (HW.out.on hb).held.2.1⟩ (fun _ => ?_)
                have hi := ih ⟨true, false, (some W.heap.size), none⟩ _ (Nat.succ.inj hc) ⟨hc1, hG.step hb (nest W [_] 0 _ rfl) 0⟩
                simp only [vd, va, Option.isSome, z1', z2', z3'] at hi
                exact hi
              · go_simp
                have hb : Below W.heap.size W (W.alloc noV) := nest_below W [_]
                refine hK.out _ _ ⟨(HW.out.on hb).held.1, (HW.out.on hb).held.2.1⟩ (fun _ => ?_)
                have hi := ih ⟨true, false, none, (some W.heap.size)⟩ _ (Nat.succ.inj hc) ⟨hc1, hG.step hb (nest W [_] 0 _ rfl) 1⟩
                simp only [vd, va, Option.isSome, z1', z2', z3'] at hi
                exact hi
            · simp only [vd, va, Option.isSome, z1', z2', z3']
              refine ry [13, 14] ?_
              refine AllReadyH.cons rfl (fun K hK => ?_) (AllReadyH.cons rfl (fun K hK => ?_) (AllReadyH.nil))
              · go_simp
                refine (C1.out _ HW.out).mono ?_
                rintro _ W2 ⟨rfl, hb⟩
                go_wp2_with fail
                refine hK.out _ _ ⟨(HW.out.on hb).held.1, (HW.out.on hb).held.2.1⟩ (fun _ => ?_)
                have hi := ih ⟨true, true, none, (some b1)⟩ _ (Nat.succ.inj hc) ⟨(fun _ => rfl), hG.on hb⟩
                simp only [vd, va, Option.isSome, z1', z2', z3'] at hi
                exact hi
              · go_simp
                have hb : Below W.heap.size W (W.alloc noV) := nest_below W [_]
                refine hK.out _ _ ⟨(HW.out.on hb).held.1, (HW.out.on hb).held.2.1⟩ (fun _ => ?_)
                have hi := ih ⟨true, false, (some W.heap.size), (some b1)⟩ _ (Nat.succ.inj hc) ⟨hc1, hG.step hb (nest W [_] 0 _ rfl) 0⟩
                simp only [vd, va, Option.isSome, z1', z2', z3'] at hi
                exact hi
            · simp only [vd, va, Option.isSome, z1', z2', z3']
              refine ry [13, 15] ?_
              refine AllReadyH.cons rfl (fun K hK => ?_) (AllReadyH.cons rfl (fun K hK => ?_) (AllReadyH.nil))
              · go_simp
                refine (C1.out _ HW.out).mono ?_
                rintro _ W2 ⟨rfl, hb⟩
                go_wp2_with fail
                refine hK.out _ _ ⟨(HW.out.on hb).held.1, (HW.out.on hb).held.2.1⟩ (fun _ => ?_)
                have hi := ih ⟨true, true, (some b0), none⟩ _ (Nat.succ.inj hc) ⟨(fun _ => rfl), hG.on hb⟩
                simp only [vd, va, Option.isSome, z1', z2', z3'] at hi
                exact hi
              · go_simp
                have hb : Below W.heap.size W (W.alloc noV) := nest_below W [_]
                refine hK.out _ _ ⟨(HW.out.on hb).held.1, (HW.out.on hb).held.2.1⟩ (fun _ => ?_)
                have hi := ih ⟨true, false, (some b0), (some W.heap.size)⟩ _ (Nat.succ.inj hc) ⟨hc1, hG.step hb (nest W [_] 0 _ rfl) 1⟩
                simp only [vd, va, Option.isSome, z1', z2', z3'] at hi
                exact hi
            · simp only [vd, va, Option.isSome, z1', z2', z3']
              refine ry [13] ?_
              refine AllReadyH.cons rfl (fun K hK => ?_) (AllReadyH.nil)
              · go_simp
                refine (C1.out _ HW.out).mono ?_
                rintro _ W2 ⟨rfl, hb⟩
                go_wp2_with fail
                refine hK.out _ _ ⟨(HW.out.on hb).held.1, (HW.out.on hb).held.2.1⟩ (fun _ => ?_)
                have hi := ih ⟨true, true, (some b0), (some b1)⟩ _ (Nat.succ.inj hc) ⟨(fun _ => rfl), hG.on hb⟩
                simp only [vd, va, Option.isSome, z1', z2', z3'] at hi
                exact hi
            · simp only [vd, va, Option.isSome, z1', z2', z3']
              refine ry [14, 15] ?_
              refine AllReadyH.cons rfl (fun K hK => ?_) (AllReadyH.cons rfl (fun K hK => ?_) (AllReadyH.nil))
              · go_simp
                have hb : Below W.heap.size W (W.alloc noV) := nest_below W [_]
                refine hK.out _ _ ⟨(HW.out.on hb).held.1, (HW.out.on hb).held.2.1⟩ (fun _ => ?_)
                have hi := ih ⟨true, true, (some W.heap.size), none⟩ _ (Nat.succ.inj hc) ⟨hc1, hG.step hb (nest W [_] 0 _ rfl) 0⟩
                simp only [vd, va, Option.isSome, z1', z2', z3'] at hi
                exact hi
              · go_simp
                have hb : Below W.heap.size W (W.alloc noV) := nest_below W [_]
                refine hK.out _ _ ⟨(HW.out.on hb).held.1, (HW.out.on hb).held.2.1⟩ (fun _ => ?_)
                have hi := ih ⟨true, true, none, (some W.heap.size)⟩ _ (Nat.succ.inj hc) ⟨hc1, hG.step hb (nest W [_] 0 _ rfl) 1⟩
                simp only [vd, va, Option.isSome, z1', z2', z3'] at hi
                exact hi
            · simp only [vd, va, Option.isSome, z1', z2', z3']
              refine ry [14] ?_
              refine AllReadyH.cons rfl (fun K hK => ?_) (AllReadyH.nil)
              · go_simp
                have hb : Below W.heap.size W (W.alloc noV) := nest_below W [_]
                refine hK.out _ _ ⟨(HW.out.on hb).held.1, (HW.out.on hb).held.2.1⟩ (fun _ => ?_)
                have hi := ih ⟨true, true, (some W.heap.size), (some b1)⟩ _ (Nat.succ.inj hc) ⟨hc1, hG.step hb (nest W [_] 0 _ rfl) 0⟩
                simp only [vd, va, Option.isSome, z1', z2', z3'] at hi
                exact hi
            · simp only [vd, va, Option.isSome, z1', z2', z3']
              refine ry [15] ?_
              refine AllReadyH.cons rfl (fun K hK => ?_) (AllReadyH.nil)
              · go_simp
                have hb : Below W.heap.size W (W.alloc noV) := nest_below W [_]
                refine hK.out _ _ ⟨(HW.out.on hb).held.1, (HW.out.on hb).held.2.1⟩ (fun _ => ?_)
                have hi := ih ⟨true, true, (some b0), (some W.heap.size)⟩ _ (Nat.succ.inj hc) ⟨hc1, hG.step hb (nest W [_] 0 _ rfl) 1⟩
                simp only [vd, va, Option.isSome, z1', z2', z3'] at hi
                exact hi
            · exact absurd hc (by simp [Vst.left])
          case hend =>
            subst hT
            rintro ⟨d0, d1, o0, o1⟩ W hc ⟨hc1, hG⟩
            rcases o0 with _ | b0
            · (simp only [Vst.left, Option.isNone, Bool.toNat_true] at hc; omega)
            rcases o1 with _ | b1
            · (simp only [Vst.left, Option.isNone, Bool.toNat_true] at hc; omega)
            rcases d0 with _ | _
            · (simp only [Vst.left, Bool.not_false, Bool.toNat_true] at hc; omega)
            rcases d1 with _ | _
            · (simp only [Vst.left, Bool.not_false, Bool.toNat_true] at hc; omega)
            simp only [vd, va, Option.isSome, z1', z2', z3']
            obtain ⟨l0, f0⟩ := hG.at_ b0 noV (by simp [Vst.l])
            obtain ⟨l1, f1⟩ := hG.at_ b1 noV (by simp [Vst.l])
            have ne : b0 ≠ b1 := fun e => by have := hG.apart 0 1 b0 _ _ rfl (by rw [e]; rfl); omega
            have HB := Lib.hid hG.below
            have HL := Lib.hid (And.intro l0 (And.intro l1 ne))
            have HF1 := Lib.hid f1
            have HG0 : Hid ((((((((((((((W.setCell ⟨b0, 0, none⟩ (.int .u8 xa)).setCell ⟨b0, 1, none⟩ (.int .u8 xs)).setCell ⟨b0, 2, none⟩ (.int .u8 xg)).setCell ⟨b0, 3, none⟩ (.int .i64 xw)).setCell ⟨b0, 4, none⟩ (.int .i64 xo)).setCell ⟨b0, 5, none⟩ (.int .i64 xt)).setCell ⟨b0, 6, none⟩ (.int .i64 xl)).setCell ⟨b0, 7, none⟩ (.bool xb)).setCell ⟨b0, 8, none⟩ (.bool xc)).setCell ⟨b0, 9, none⟩ (.bool xd)).setCell ⟨b0, 10, none⟩ (.bool xe)).setCell ⟨b0, 11, none⟩ (.bool xf)).setCell ⟨b0, 12, none⟩ (.bool xh)).heap[b0]? = some (.cells #[.int .u8 xa, .int .u8 xs, .int .u8 xg, .int .i64 xw, .int .i64 xo, .int .i64 xt, .int .i64 xl, .bool xb, .bool xc, .bool xd, .bool xe, .bool xf, .bool xh] TV (0, 0))) := Lib.hid (set13_at f0 (.int .u8 xa) (.int .u8 xs) (.int .u8 xg) (.int .i64 xw) (.int .i64 xo) (.int .i64 xt) (.int .i64 xl) (.bool xb) (.bool xc) (.bool xd) (.bool xe) (.bool xf) (.bool xh))
            obtain ⟨⟨z0, z1, z2, z3, z4, z5, z6, z7, z8, z9, z10, z11, z12⟩, zf⟩ := cells13 f0
            clear hc hc1 hG f0 f1 l0 l1 ne C0 C1
            refine ry [16] ?_
            refine AllReadyH.cons rfl (fun K hK => ?_) AllReadyH.nil
            go_simp
            go_wp2_with fail
            have hb1 := below_set13 HB.out HL.out.1 (.int .u8 xa) (.int .u8 xs) (.int .u8 xg) (.int .i64 xw) (.int .i64 xo) (.int .i64 xt) (.int .i64 xl) (.bool xb) (.bool xc) (.bool xd) (.bool xe) (.bool xf) (.bool xh)
            have hS1 := H7.out.on hb1
            refine hK.out _ _ ⟨hS1.held.1, hS1.held.2.1⟩ (fun hNext => ?_)
            clear hK K z0 z1 z2 z3 z4 z5 z6 z7 z8 z9 z10 z11 z12 zf hS1 hNext
            (try simp only [z1', z2', z3'])
            have HF2 := Lib.hid ((set13_other (w := W) HL.out.2.2.symm (.int .u8 xa) (.int .u8 xs) (.int .u8 xg) (.int .i64 xw) (.int .i64 xo) (.int .i64 xt) (.int .i64 xl) (.bool xb) (.bool xc) (.bool xd) (.bool xe) (.bool xf) (.bool xh)).trans HF1.out)
            have HB1 := Lib.hid hb1
            clear HF1 HB hb1
            generalize (((((((((((((W.setCell ⟨b0, 0, none⟩ (.int .u8 xa)).setCell ⟨b0, 1, none⟩ (.int .u8 xs)).setCell ⟨b0, 2, none⟩ (.int .u8 xg)).setCell ⟨b0, 3, none⟩ (.int .i64 xw)).setCell ⟨b0, 4, none⟩ (.int .i64 xo)).setCell ⟨b0, 5, none⟩ (.int .i64 xt)).setCell ⟨b0, 6, none⟩ (.int .i64 xl)).setCell ⟨b0, 7, none⟩ (.bool xb)).setCell ⟨b0, 8, none⟩ (.bool xc)).setCell ⟨b0, 9, none⟩ (.bool xd)).setCell ⟨b0, 10, none⟩ (.bool xe)).setCell ⟨b0, 11, none⟩ (.bool xf)).setCell ⟨b0, 12, none⟩ (.bool xh)) = W1 at HF2 HB1 HG0 ⊢
            have HG1 : Hid ((((((((((((((W1.setCell ⟨b1, 0, none⟩ (.int .u8 ya)).setCell ⟨b1, 1, none⟩ (.int .u8 ys)).setCell ⟨b1, 2, none⟩ (.int .u8 yg)).setCell ⟨b1, 3, none⟩ (.int .i64 yw)).setCell ⟨b1, 4, none⟩ (.int .i64 yo)).setCell ⟨b1, 5, none⟩ (.int .i64 yt)).setCell ⟨b1, 6, none⟩ (.int .i64 yl)).setCell ⟨b1, 7, none⟩ (.bool yb)).setCell ⟨b1, 8, none⟩ (.bool yc)).setCell ⟨b1, 9, none⟩ (.bool yd)).setCell ⟨b1, 10, none⟩ (.bool ye)).setCell ⟨b1, 11, none⟩ (.bool yf)).setCell ⟨b1, 12, none⟩ (.bool yh)).heap[b1]? = some (.cells #[.int .u8 ya, .int .u8 ys, .int .u8 yg, .int .i64 yw, .int .i64 yo, .int .i64 yt, .int .i64 yl, .bool yb, .bool yc, .bool yd, .bool ye, .bool yf, .bool yh] TV (0, 0))) := Lib.hid (set13_at HF2.out (.int .u8 ya) (.int .u8 ys) (.int .u8 yg) (.int .i64 yw) (.int .i64 yo) (.int .i64 yt) (.int .i64 yl) (.bool yb) (.bool yc) (.bool yd) (.bool ye) (.bool yf) (.bool yh))
            obtain ⟨⟨z0, z1, z2, z3, z4, z5, z6, z7, z8, z9, z10, z11, z12⟩, zf⟩ := cells13 HF2.out
            refine ry [17] ?_
            refine AllReadyH.cons rfl (fun K hK => ?_) AllReadyH.nil
            go_simp
            go_wp2_with fail
            have hb2 := below_set13 HB1.out HL.out.2.1 (.int .u8 ya) (.int .u8 ys) (.int .u8 yg) (.int .i64 yw) (.int .i64 yo) (.int .i64 yt) (.int .i64 yl) (.bool yb) (.bool yc) (.bool yd) (.bool ye) (.bool yf) (.bool yh)
            have hS2 := H7.out.on hb2
            refine hK.out _ _ ⟨hS2.held.1, hS2.held.2.1⟩ (fun hNext => ?_)
            clear hK K z0 z1 z2 z3 z4 z5 z6 z7 z8 z9 z10 z11 z12 zf hNext
            (try simp only [z1', z2', z3'])
            have HG3 := Lib.hid ((set13_other (w := W1) HL.out.2.2 (.int .u8 ya) (.int .u8 ys) (.int .u8 yg) (.int .i64 yw) (.int .i64 yo) (.int .i64 yt) (.int .i64 yl) (.bool yb) (.bool yc) (.bool yd) (.bool ye) (.bool yf) (.bool yh)).trans HG0.out)
            have HP2 := Lib.hid hS2
            clear HG0 HF2 HB1 hb2 hS2 HL H7
            generalize (((((((((((((W1.setCell ⟨b1, 0, none⟩ (.int .u8 ya)).setCell ⟨b1, 1, none⟩ (.int .u8 ys)).setCell ⟨b1, 2, none⟩ (.int .u8 yg)).setCell ⟨b1, 3, none⟩ (.int .i64 yw)).setCell ⟨b1, 4, none⟩ (.int .i64 yo)).setCell ⟨b1, 5, none⟩ (.int .i64 yt)).setCell ⟨b1, 6, none⟩ (.int .i64 yl)).setCell ⟨b1, 7, none⟩ (.bool yb)).setCell ⟨b1, 8, none⟩ (.bool yc)).setCell ⟨b1, 9, none⟩ (.bool yd)).setCell ⟨b1, 10, none⟩ (.bool ye)).setCell ⟨b1, 11, none⟩ (.bool yf)).setCell ⟨b1, 12, none⟩ (.bool yh)) = W2 at HG1 HG3 HP2 ⊢
            refine wpAnyH_done (by kernel_rfl) ?_ _
            go_wp2_with fail
            have H8 := Lib.hid (HP2.out.on (w' := W2.drew) ⟨rfl, rfl, rfl, Nat.le_refl _, fun _ _ => rfl⟩)
            have HX0 : Hid (W2.drew.heap[b0]? = some (.cells #[.int .u8 xa, .int .u8 xs, .int .u8 xg, .int .i64 xw, .int .i64 xo, .int .i64 xt, .int .i64 xl, .bool xb, .bool xc, .bool xd, .bool xe, .bool xf, .bool xh] TV (0, 0))) := HG3
            have HX1 : Hid (W2.drew.heap[b1]? = some (.cells #[.int .u8 ya, .int .u8 ys, .int .u8 yg, .int .i64 yw, .int .i64 yo, .int .i64 yt, .int .i64 yl, .bool yb, .bool yc, .bool yd, .bool ye, .bool yf, .bool yh] TV (0, 0))) := HG1
            have cw := Lib.hid (fun w' => fworks w')
            clear HP2 HG3 HG1
            obtain ⟨q0, q1, v0, v1, tag, hp⟩ := H8.out
            have HU := Lib.hid (And.intro hp.blk (And.intro hp.u hp.k))
            have HBW := Lib.hid hp.below
            clear hp q0 q1 v0 v1 tag H8
            obtain ⟨hfin, ⟨hxh, hxw⟩, ⟨hyh, hyw⟩⟩ := HX.out
            clear HX
            by_cases hA1 : r.A.fl = true
            · obtain rfl : xh = true := hxh.trans hA1
              clear hxh hxw hyh hyw hfin hA1
              refine wp_region_held_drew (S := (fun w' => Below W2.drew.heap.size W2.drew w')) (by kernel_rfl) (Below.refl _ _) (fun hHeld => ?_)
              refine' tk 0 ⟨some 126, .fieldAddr 35 (.tmp 12) 12, 0, "law.go:253", #[], none⟩ ?_
              simp only [Act.put, z1', z2', z3']
              refine' tv 1 ⟨some 127, .load 4 (.tmp 126), 4, "law.go:253", #[⟨0, .data⟩], none⟩ ?hy14 ?hr14
              case hy14 => (intro _ hSw; (try dsimp only at hSw); obtain ⟨⟨z0, z1, z2, z3, z4, z5, z6, z7, z8, z9, z10, z11, z12⟩, -⟩ := cells13 (stays HX0.out hSw); go_simp <;> with_reducible rfl)
              simp only [Act.put, z1', z2', z3']
              refine' tk 2 ⟨some 128, .move (.tmp 127), 4, "law.go:253", #[⟨1, .data⟩], none⟩ ?_
              simp only [Act.put, z1', z2', z3']
              refine sk 3 ⟨some 129, .fieldAddr 35 (.tmp 13) 12, 0, "law.go:253", #[⟨2, .guard⟩], some (2, false)⟩ ?_
              simp only [Act.put, z1', z2', z3']
              refine sk 4 ⟨some 130, .load 4 (.tmp 129), 4, "law.go:253", #[⟨3, .data⟩, ⟨2, .guard⟩], some (2, false)⟩ ?_
              simp only [Act.put, z1', z2', z3']
              refine' tk 5 ⟨some 131, .pick (.tmp 128) (.const (.bool true)) (.tmp 130), 4, "law.go:253", #[⟨2, .data⟩, ⟨4, .data⟩], none⟩ ?_
              simp only [Act.put, z1', z2', z3']
              refine' tk 6 ⟨some 132, .move (.tmp 131), 4, "law.go:253", #[⟨5, .data⟩, ⟨2, .chain⟩], none⟩ ?_
              simp only [Act.put, z1', z2', z3']
              refine sk 7 ⟨some 133, .fieldAddr 35 (.tmp 12) 3, 0, "law.go:253", #[⟨6, .guard⟩], some (6, false)⟩ ?_
              simp only [Act.put, z1', z2', z3']
              refine sk 8 ⟨some 134, .load 3 (.tmp 133), 3, "law.go:253", #[⟨7, .data⟩, ⟨6, .guard⟩], some (6, false)⟩ ?_
              simp only [Act.put, z1', z2', z3']
              refine sk 9 ⟨some 135, .binOp .eql 3 (.tmp 134) (.const (.int .i64 0)) 3, 4, "law.go:253", #[⟨8, .data⟩, ⟨6, .guard⟩], some (6, false)⟩ ?_
              simp only [Act.put, z1', z2', z3']
              refine sk 10 ⟨some 136, .move (.tmp 135), 4, "law.go:253", #[⟨9, .data⟩, ⟨6, .chain⟩, ⟨6, .guard⟩], some (6, false)⟩ ?_
              simp only [Act.put, z1', z2', z3']
              refine sk 11 ⟨some 137, .fieldAddr 35 (.tmp 13) 3, 0, "law.go:253", #[⟨10, .guard⟩], some (10, true)⟩ ?_
              simp only [Act.put, z1', z2', z3']
              refine sk 12 ⟨some 138, .load 3 (.tmp 137), 3, "law.go:253", #[⟨11, .data⟩, ⟨10, .guard⟩], some (10, true)⟩ ?_
              simp only [Act.put, z1', z2', z3']
              refine sk 13 ⟨some 139, .binOp .eql 3 (.tmp 138) (.const (.int .i64 0)) 3, 4, "law.go:253", #[⟨12, .data⟩, ⟨10, .guard⟩], some (10, true)⟩ ?_
              simp only [Act.put, z1', z2', z3']
              refine sk 14 ⟨some 140, .pick (.tmp 136) (.tmp 139) (.const (.bool false)), 4, "law.go:253", #[⟨10, .data⟩, ⟨13, .data⟩, ⟨6, .guard⟩], some (6, false)⟩ ?_
              simp only [Act.put, z1', z2', z3']
              refine sk 15 ⟨some 141, .move (.tmp 140), 4, "law.go:253", #[⟨14, .data⟩, ⟨10, .chain⟩, ⟨6, .guard⟩], some (6, false)⟩ ?_
              simp only [Act.put, z1', z2', z3']
              refine sk 16 ⟨some 142, .move (.tmp 9), 40, "law.go:253", #[⟨15, .guard⟩], some (15, true)⟩ ?_
              simp only [Act.put, z1', z2', z3']
              refine sk 17 ⟨some 143, .nilCheck (.tmp 142), 0, "law.go:253", #[⟨16, .data⟩, ⟨15, .guard⟩], some (15, true)⟩ ?_
              simp only [Act.put, z1', z2', z3']
              refine sk 18 ⟨some 144, .fieldAddr 46 (.tmp 143) 3, 0, "law.go:253", #[⟨17, .data⟩, ⟨15, .guard⟩], some (15, true)⟩ ?_
              simp only [Act.put, z1', z2', z3']
              refine sk 19 ⟨some 145, .load 44 (.tmp 144), 44, "law.go:253", #[⟨18, .data⟩, ⟨15, .guard⟩], some (15, true)⟩ ?_
              simp only [Act.put, z1', z2', z3']
              refine sk 20 ⟨some 146, .indexAddr 44 (.tmp 145) (.const (.int .i64 0)), 0, "law.go:253", #[⟨19, .data⟩, ⟨15, .guard⟩], some (15, true)⟩ ?_
              simp only [Act.put, z1', z2', z3']
              refine sk 21 ⟨some 147, .load 3 (.tmp 146), 3, "law.go:253", #[⟨20, .data⟩, ⟨15, .guard⟩], some (15, true)⟩ ?_
              simp only [Act.put, z1', z2', z3']
              refine sk 22 ⟨some 148, .move (.tmp 9), 40, "law.go:253", #[⟨15, .guard⟩], some (15, true)⟩ ?_
              simp only [Act.put, z1', z2', z3']
              refine sk 23 ⟨some 149, .nilCheck (.tmp 148), 0, "law.go:253", #[⟨22, .data⟩, ⟨15, .guard⟩], some (15, true)⟩ ?_
              simp only [Act.put, z1', z2', z3']
              refine sk 24 ⟨some 150, .fieldAddr 46 (.tmp 149) 2, 0, "law.go:253", #[⟨23, .data⟩, ⟨15, .guard⟩], some (15, true)⟩ ?_
              simp only [Act.put, z1', z2', z3']
              refine sk 25 ⟨some 151, .load 44 (.tmp 150), 44, "law.go:253", #[⟨24, .data⟩, ⟨15, .guard⟩], some (15, true)⟩ ?_
              simp only [Act.put, z1', z2', z3']
              refine sk 26 ⟨some 152, .indexAddr 44 (.tmp 151) (.const (.int .i64 0)), 0, "law.go:253", #[⟨25, .data⟩, ⟨15, .guard⟩], some (15, true)⟩ ?_
              simp only [Act.put, z1', z2', z3']
              refine sk 27 ⟨some 153, .load 3 (.tmp 152), 3, "law.go:253", #[⟨26, .data⟩, ⟨15, .guard⟩], some (15, true)⟩ ?_
              simp only [Act.put, z1', z2', z3']
              refine sk 28 ⟨some 154, .binOp .eql 3 (.tmp 147) (.tmp 153) 3, 4, "law.go:253", #[⟨21, .data⟩, ⟨27, .data⟩, ⟨15, .guard⟩], some (15, true)⟩ ?_
              simp only [Act.put, z1', z2', z3']
              refine sk 29 ⟨some 155, .pick (.tmp 141) (.tmp 154) (.const (.bool false)), 4, "law.go:253", #[⟨15, .data⟩, ⟨28, .data⟩, ⟨6, .guard⟩], some (6, false)⟩ ?_
              simp only [Act.put, z1', z2', z3']
              refine sk 30 ⟨some 156, .move (.tmp 155), 4, "law.go:253", #[⟨29, .data⟩, ⟨15, .chain⟩, ⟨6, .guard⟩], some (6, false)⟩ ?_
              simp only [Act.put, z1', z2', z3']
              refine sk 31 ⟨some 157, .move (.tmp 9), 40, "law.go:253", #[⟨30, .guard⟩], some (30, true)⟩ ?_
              simp only [Act.put, z1', z2', z3']
              refine sk 32 ⟨some 158, .nilCheck (.tmp 157), 0, "law.go:253", #[⟨31, .data⟩, ⟨30, .guard⟩], some (30, true)⟩ ?_
              simp only [Act.put, z1', z2', z3']
              refine sk 33 ⟨some 159, .fieldAddr 46 (.tmp 158) 3, 0, "law.go:253", #[⟨32, .data⟩, ⟨30, .guard⟩], some (30, true)⟩ ?_
              simp only [Act.put, z1', z2', z3']
              refine sk 34 ⟨some 160, .load 44 (.tmp 159), 44, "law.go:253", #[⟨33, .data⟩, ⟨30, .guard⟩], some (30, true)⟩ ?_
              simp only [Act.put, z1', z2', z3']
              refine sk 35 ⟨some 161, .indexAddr 44 (.tmp 160) (.const (.int .i64 1)), 0, "law.go:253", #[⟨34, .data⟩, ⟨30, .guard⟩], some (30, true)⟩ ?_
              simp only [Act.put, z1', z2', z3']
              refine sk 36 ⟨some 162, .load 3 (.tmp 161), 3, "law.go:253", #[⟨35, .data⟩, ⟨30, .guard⟩], some (30, true)⟩ ?_
              simp only [Act.put, z1', z2', z3']
              refine sk 37 ⟨some 163, .move (.tmp 9), 40, "law.go:253", #[⟨30, .guard⟩], some (30, true)⟩ ?_
              simp only [Act.put, z1', z2', z3']
              refine sk 38 ⟨some 164, .nilCheck (.tmp 163), 0, "law.go:253", #[⟨37, .data⟩, ⟨30, .guard⟩], some (30, true)⟩ ?_
              simp only [Act.put, z1', z2', z3']
              refine sk 39 ⟨some 165, .fieldAddr 46 (.tmp 164) 2, 0, "law.go:253", #[⟨38, .data⟩, ⟨30, .guard⟩], some (30, true)⟩ ?_
              simp only [Act.put, z1', z2', z3']
              refine sk 40 ⟨some 166, .load 44 (.tmp 165), 44, "law.go:253", #[⟨39, .data⟩, ⟨30, .guard⟩], some (30, true)⟩ ?_
              simp only [Act.put, z1', z2', z3']
              refine sk 41 ⟨some 167, .indexAddr 44 (.tmp 166) (.const (.int .i64 1)), 0, "law.go:253", #[⟨40, .data⟩, ⟨30, .guard⟩], some (30, true)⟩ ?_
              simp only [Act.put, z1', z2', z3']
              refine sk 42 ⟨some 168, .load 3 (.tmp 167), 3, "law.go:253", #[⟨41, .data⟩, ⟨30, .guard⟩], some (30, true)⟩ ?_
              simp only [Act.put, z1', z2', z3']
              refine sk 43 ⟨some 169, .binOp .eql 3 (.tmp 162) (.tmp 168) 3, 4, "law.go:253", #[⟨36, .data⟩, ⟨42, .data⟩, ⟨30, .guard⟩], some (30, true)⟩ ?_
              simp only [Act.put, z1', z2', z3']
              refine sk 44 ⟨some 170, .pick (.tmp 156) (.tmp 169) (.const (.bool false)), 4, "law.go:253", #[⟨30, .data⟩, ⟨43, .data⟩, ⟨6, .guard⟩], some (6, false)⟩ ?_
              simp only [Act.put, z1', z2', z3']
              refine' tk 45 ⟨some 171, .pick (.tmp 132) (.const (.bool true)) (.tmp 170), 4, "law.go:253", #[⟨6, .data⟩, ⟨44, .data⟩], none⟩ ?_
              simp only [Act.put, z1', z2', z3']
              refine' tk 46 ⟨some 172, .move (.tmp 171), 4, "law.go:253", #[⟨45, .data⟩, ⟨30, .chain⟩], none⟩ ?_
              simp only [Act.put, z1', z2', z3']
              refine ry [47] ?_
              refine AllReadyH.cons rfl (fun K hK => ?_) AllReadyH.nil
              go_simp
              (with_reducible refine (cw.out _).mono ?_)
              rintro e wc ⟨rfl, hb⟩
              go_wp2_with fail
              have HB9 := Lib.hid (below_on hHeld hb)
              refine hK.out _ _ HB9.out (fun hNext => ?_)
              clear hK K hHeld hb
              have hHeld := hNext
              clear hNext
              (try simp only [Act.put, z1', z2', z3'])
              refine' tk 48 ⟨some 174, .pick (.tmp 172) (.tmp 173) (.const (.bool false)), 4, "law.go:253", #[⟨46, .data⟩, ⟨47, .data⟩], none⟩ ?_
              simp only [Act.put, z1', z2', z3']
              refine' tk 49 ⟨some 8, .assign (.tmp 174), 4, "law.go:253", #[⟨48, .data⟩, ⟨47, .chain⟩, ⟨0, .phase⟩, ⟨1, .phase⟩, ⟨2, .phase⟩, ⟨3, .phase⟩, ⟨4, .phase⟩, ⟨5, .phase⟩, ⟨6, .phase⟩, ⟨7, .phase⟩, ⟨8, .phase⟩, ⟨9, .phase⟩, ⟨10, .phase⟩, ⟨11, .phase⟩, ⟨12, .phase⟩, ⟨13, .phase⟩, ⟨14, .phase⟩, ⟨15, .phase⟩, ⟨16, .phase⟩, ⟨17, .phase⟩, ⟨18, .phase⟩, ⟨19, .phase⟩, ⟨20, .phase⟩, ⟨21, .phase⟩, ⟨22, .phase⟩, ⟨23, .phase⟩, ⟨24, .phase⟩, ⟨25, .phase⟩, ⟨26, .phase⟩, ⟨27, .phase⟩, ⟨28, .phase⟩, ⟨29, .phase⟩, ⟨30, .phase⟩, ⟨31, .phase⟩, ⟨32, .phase⟩, ⟨33, .phase⟩, ⟨34, .phase⟩, ⟨35, .phase⟩, ⟨36, .phase⟩, ⟨37, .phase⟩, ⟨38, .phase⟩, ⟨39, .phase⟩, ⟨40, .phase⟩, ⟨41, .phase⟩, ⟨42, .phase⟩, ⟨43, .phase⟩, ⟨44, .phase⟩, ⟨45, .phase⟩, ⟨46, .phase⟩, ⟨47, .phase⟩, ⟨48, .phase⟩], none⟩ ?_
              simp only [Act.put, z1', z2', z3']
              refine wpAnyH_done (by kernel_rfl) ?_ _
              go_wp2
              go_ret
              exact ⟨rfl, below_on HBW.out HB9.out⟩
            have hA2 : r.A.fl = false := by simpa using hA1
            by_cases hB1 : r.B.fl = true
            · obtain rfl : xh = false := hxh.trans hA2
              obtain rfl : yh = true := hyh.trans hB1
              clear hxh hxw hyh hyw hfin hA1 hA2 hB1
              refine wp_region_held_drew (S := (fun w' => Below W2.drew.heap.size W2.drew w')) (by kernel_rfl) (Below.refl _ _) (fun hHeld => ?_)
              refine' tk 0 ⟨some 126, .fieldAddr 35 (.tmp 12) 12, 0, "law.go:253", #[], none⟩ ?_
              simp only [Act.put, z1', z2', z3']
              refine' tv 1 ⟨some 127, .load 4 (.tmp 126), 4, "law.go:253", #[⟨0, .data⟩], none⟩ ?hy23 ?hr23
              case hy23 => (intro _ hSw; (try dsimp only at hSw); obtain ⟨⟨z0, z1, z2, z3, z4, z5, z6, z7, z8, z9, z10, z11, z12⟩, -⟩ := cells13 (stays HX0.out hSw); go_simp <;> with_reducible rfl)
              simp only [Act.put, z1', z2', z3']
              refine' tk 2 ⟨some 128, .move (.tmp 127), 4, "law.go:253", #[⟨1, .data⟩], none⟩ ?_
              simp only [Act.put, z1', z2', z3']
              refine' tk 3 ⟨some 129, .fieldAddr 35 (.tmp 13) 12, 0, "law.go:253", #[⟨2, .guard⟩], some (2, false)⟩ ?_
              simp only [Act.put, z1', z2', z3']
              refine' tv 4 ⟨some 130, .load 4 (.tmp 129), 4, "law.go:253", #[⟨3, .data⟩, ⟨2, .guard⟩], some (2, false)⟩ ?hy26 ?hr26
              case hy26 => (intro _ hSw; (try dsimp only at hSw); obtain ⟨⟨z0, z1, z2, z3, z4, z5, z6, z7, z8, z9, z10, z11, z12⟩, -⟩ := cells13 (stays HX1.out hSw); go_simp <;> with_reducible rfl)
              simp only [Act.put, z1', z2', z3']
              refine' tk 5 ⟨some 131, .pick (.tmp 128) (.const (.bool true)) (.tmp 130), 4, "law.go:253", #[⟨2, .data⟩, ⟨4, .data⟩], none⟩ ?_
              simp only [Act.put, z1', z2', z3']
              refine' tk 6 ⟨some 132, .move (.tmp 131), 4, "law.go:253", #[⟨5, .data⟩, ⟨2, .chain⟩], none⟩ ?_
              simp only [Act.put, z1', z2', z3']
              refine sk 7 ⟨some 133, .fieldAddr 35 (.tmp 12) 3, 0, "law.go:253", #[⟨6, .guard⟩], some (6, false)⟩ ?_
              simp only [Act.put, z1', z2', z3']
              refine sk 8 ⟨some 134, .load 3 (.tmp 133), 3, "law.go:253", #[⟨7, .data⟩, ⟨6, .guard⟩], some (6, false)⟩ ?_
              simp only [Act.put, z1', z2', z3']
              refine sk 9 ⟨some 135, .binOp .eql 3 (.tmp 134) (.const (.int .i64 0)) 3, 4, "law.go:253", #[⟨8, .data⟩, ⟨6, .guard⟩], some (6, false)⟩ ?_
              simp only [Act.put, z1', z2', z3']
              refine sk 10 ⟨some 136, .move (.tmp 135), 4, "law.go:253", #[⟨9, .data⟩, ⟨6, .chain⟩, ⟨6, .guard⟩], some (6, false)⟩ ?_
              simp only [Act.put, z1', z2', z3']
              refine sk 11 ⟨some 137, .fieldAddr 35 (.tmp 13) 3, 0, "law.go:253", #[⟨10, .guard⟩], some (10, true)⟩ ?_
              simp only [Act.put, z1', z2', z3']
              refine sk 12 ⟨some 138, .load 3 (.tmp 137), 3, "law.go:253", #[⟨11, .data⟩, ⟨10, .guard⟩], some (10, true)⟩ ?_
              simp only [Act.put, z1', z2', z3']
              refine sk 13 ⟨some 139, .binOp .eql 3 (.tmp 138) (.const (.int .i64 0)) 3, 4, "law.go:253", #[⟨12, .data⟩, ⟨10, .guard⟩], some (10, true)⟩ ?_
              simp only [Act.put, z1', z2', z3']
              refine sk 14 ⟨some 140, .pick (.tmp 136) (.tmp 139) (.const (.bool false)), 4, "law.go:253", #[⟨10, .data⟩, ⟨13, .data⟩, ⟨6, .guard⟩], some (6, false)⟩ ?_
              simp only [Act.put, z1', z2', z3']
              refine sk 15 ⟨some 141, .move (.tmp 140), 4, "law.go:253", #[⟨14, .data⟩, ⟨10, .chain⟩, ⟨6, .guard⟩], some (6, false)⟩ ?_
              simp only [Act.put, z1', z2', z3']
              refine sk 16 ⟨some 142, .move (.tmp 9), 40, "law.go:253", #[⟨15, .guard⟩], some (15, true)⟩ ?_
              simp only [Act.put, z1', z2', z3']
              refine sk 17 ⟨some 143, .nilCheck (.tmp 142), 0, "law.go:253", #[⟨16, .data⟩, ⟨15, .guard⟩], some (15, true)⟩ ?_
              simp only [Act.put, z1', z2', z3']
              refine sk 18 ⟨some 144, .fieldAddr 46 (.tmp 143) 3, 0, "law.go:253", #[⟨17, .data⟩, ⟨15, .guard⟩], some (15, true)⟩ ?_
              simp only [Act.put, z1', z2', z3']
              refine sk 19 ⟨some 145, .load 44 (.tmp 144), 44, "law.go:253", #[⟨18, .data⟩, ⟨15, .guard⟩], some (15, true)⟩ ?_
              simp only [Act.put, z1', z2', z3']
              refine sk 20 ⟨some 146, .indexAddr 44 (.tmp 145) (.const (.int .i64 0)), 0, "law.go:253", #[⟨19, .data⟩, ⟨15, .guard⟩], some (15, true)⟩ ?_
              simp only [Act.put, z1', z2', z3']
              refine sk 21 ⟨some 147, .load 3 (.tmp 146), 3, "law.go:253", #[⟨20, .data⟩, ⟨15, .guard⟩], some (15, true)⟩ ?_
              simp only [Act.put, z1', z2', z3']
              refine sk 22 ⟨some 148, .move (.tmp 9), 40, "law.go:253", #[⟨15, .guard⟩], some (15, true)⟩ ?_
              simp only [Act.put, z1', z2', z3']
              refine sk 23 ⟨some 149, .nilCheck (.tmp 148), 0, "law.go:253", #[⟨22, .data⟩, ⟨15, .guard⟩], some (15, true)⟩ ?_
              simp only [Act.put, z1', z2', z3']
              refine sk 24 ⟨some 150, .fieldAddr 46 (.tmp 149) 2, 0, "law.go:253", #[⟨23, .data⟩, ⟨15, .guard⟩], some (15, true)⟩ ?_
              simp only [Act.put, z1', z2', z3']
              refine sk 25 ⟨some 151, .load 44 (.tmp 150), 44, "law.go:253", #[⟨24, .data⟩, ⟨15, .guard⟩], some (15, true)⟩ ?_
              simp only [Act.put, z1', z2', z3']
              refine sk 26 ⟨some 152, .indexAddr 44 (.tmp 151) (.const (.int .i64 0)), 0, "law.go:253", #[⟨25, .data⟩, ⟨15, .guard⟩], some (15, true)⟩ ?_
              simp only [Act.put, z1', z2', z3']
              refine sk 27 ⟨some 153, .load 3 (.tmp 152), 3, "law.go:253", #[⟨26, .data⟩, ⟨15, .guard⟩], some (15, true)⟩ ?_
              simp only [Act.put, z1', z2', z3']
              refine sk 28 ⟨some 154, .binOp .eql 3 (.tmp 147) (.tmp 153) 3, 4, "law.go:253", #[⟨21, .data⟩, ⟨27, .data⟩, ⟨15, .guard⟩], some (15, true)⟩ ?_
              simp only [Act.put, z1', z2', z3']
              refine sk 29 ⟨some 155, .pick (.tmp 141) (.tmp 154) (.const (.bool false)), 4, "law.go:253", #[⟨15, .data⟩, ⟨28, .data⟩, ⟨6, .guard⟩], some (6, false)⟩ ?_
              simp only [Act.put, z1', z2', z3']
              refine sk 30 ⟨some 156, .move (.tmp 155), 4, "law.go:253", #[⟨29, .data⟩, ⟨15, .chain⟩, ⟨6, .guard⟩], some (6, false)⟩ ?_
              simp only [Act.put, z1', z2', z3']
              refine sk 31 ⟨some 157, .move (.tmp 9), 40, "law.go:253", #[⟨30, .guard⟩], some (30, true)⟩ ?_
              simp only [Act.put, z1', z2', z3']
              refine sk 32 ⟨some 158, .nilCheck (.tmp 157), 0, "law.go:253", #[⟨31, .data⟩, ⟨30, .guard⟩], some (30, true)⟩ ?_
              simp only [Act.put, z1', z2', z3']
              refine sk 33 ⟨some 159, .fieldAddr 46 (.tmp 158) 3, 0, "law.go:253", #[⟨32, .data⟩, ⟨30, .guard⟩], some (30, true)⟩ ?_
              simp only [Act.put, z1', z2', z3']
              refine sk 34 ⟨some 160, .load 44 (.tmp 159), 44, "law.go:253", #[⟨33, .data⟩, ⟨30, .guard⟩], some (30, true)⟩ ?_
              simp only [Act.put, z1', z2', z3']
              refine sk 35 ⟨some 161, .indexAddr 44 (.tmp 160) (.const (.int .i64 1)), 0, "law.go:253", #[⟨34, .data⟩, ⟨30, .guard⟩], some (30, true)⟩ ?_
              simp only [Act.put, z1', z2', z3']
              refine sk 36 ⟨some 162, .load 3 (.tmp 161), 3, "law.go:253", #[⟨35, .data⟩, ⟨30, .guard⟩], some (30, true)⟩ ?_
              simp only [Act.put, z1', z2', z3']
              refine sk 37 ⟨some 163, .move (.tmp 9), 40, "law.go:253", #[⟨30, .guard⟩], some (30, true)⟩ ?_
              simp only [Act.put, z1', z2', z3']
              refine sk 38 ⟨some 164, .nilCheck (.tmp 163), 0, "law.go:253", #[⟨37, .data⟩, ⟨30, .guard⟩], some (30, true)⟩ ?_
              simp only [Act.put, z1', z2', z3']
              refine sk 39 ⟨some 165, .fieldAddr 46 (.tmp 164) 2, 0, "law.go:253", #[⟨38, .data⟩, ⟨30, .guard⟩], some (30, true)⟩ ?_
              simp only [Act.put, z1', z2', z3']
              refine sk 40 ⟨some 166, .load 44 (.tmp 165), 44, "law.go:253", #[⟨39, .data⟩, ⟨30, .guard⟩], some (30, true)⟩ ?_
              simp only [Act.put, z1', z2', z3']
              refine sk 41 ⟨some 167, .indexAddr 44 (.tmp 166) (.const (.int .i64 1)), 0, "law.go:253", #[⟨40, .data⟩, ⟨30, .guard⟩], some (30, true)⟩ ?_
              simp only [Act.put, z1', z2', z3']
              refine sk 42 ⟨some 168, .load 3 (.tmp 167), 3, "law.go:253", #[⟨41, .data⟩, ⟨30, .guard⟩], some (30, true)⟩ ?_
              simp only [Act.put, z1', z2', z3']
              refine sk 43 ⟨some 169, .binOp .eql 3 (.tmp 162) (.tmp 168) 3, 4, "law.go:253", #[⟨36, .data⟩, ⟨42, .data⟩, ⟨30, .guard⟩], some (30, true)⟩ ?_
              simp only [Act.put, z1', z2', z3']
              refine sk 44 ⟨some 170, .pick (.tmp 156) (.tmp 169) (.const (.bool false)), 4, "law.go:253", #[⟨30, .data⟩, ⟨43, .data⟩, ⟨6, .guard⟩], some (6, false)⟩ ?_
              simp only [Act.put, z1', z2', z3']
              refine' tk 45 ⟨some 171, .pick (.tmp 132) (.const (.bool true)) (.tmp 170), 4, "law.go:253", #[⟨6, .data⟩, ⟨44, .data⟩], none⟩ ?_
              simp only [Act.put, z1', z2', z3']
              refine' tk 46 ⟨some 172, .move (.tmp 171), 4, "law.go:253", #[⟨45, .data⟩, ⟨30, .chain⟩], none⟩ ?_
              simp only [Act.put, z1', z2', z3']
              refine ry [47] ?_
              refine AllReadyH.cons rfl (fun K hK => ?_) AllReadyH.nil
              go_simp
              (with_reducible refine (cw.out _).mono ?_)
              rintro e wc ⟨rfl, hb⟩
              go_wp2_with fail
              have HB9 := Lib.hid (below_on hHeld hb)
              refine hK.out _ _ HB9.out (fun hNext => ?_)
              clear hK K hHeld hb
              have hHeld := hNext
              clear hNext
              (try simp only [Act.put, z1', z2', z3'])
              refine' tk 48 ⟨some 174, .pick (.tmp 172) (.tmp 173) (.const (.bool false)), 4, "law.go:253", #[⟨46, .data⟩, ⟨47, .data⟩], none⟩ ?_
              simp only [Act.put, z1', z2', z3']
              refine' tk 49 ⟨some 8, .assign (.tmp 174), 4, "law.go:253", #[⟨48, .data⟩, ⟨47, .chain⟩, ⟨0, .phase⟩, ⟨1, .phase⟩, ⟨2, .phase⟩, ⟨3, .phase⟩, ⟨4, .phase⟩, ⟨5, .phase⟩, ⟨6, .phase⟩, ⟨7, .phase⟩, ⟨8, .phase⟩, ⟨9, .phase⟩, ⟨10, .phase⟩, ⟨11, .phase⟩, ⟨12, .phase⟩, ⟨13, .phase⟩, ⟨14, .phase⟩, ⟨15, .phase⟩, ⟨16, .phase⟩, ⟨17, .phase⟩, ⟨18, .phase⟩, ⟨19, .phase⟩, ⟨20, .phase⟩, ⟨21, .phase⟩, ⟨22, .phase⟩, ⟨23, .phase⟩, ⟨24, .phase⟩, ⟨25, .phase⟩, ⟨26, .phase⟩, ⟨27, .phase⟩, ⟨28, .phase⟩, ⟨29, .phase⟩, ⟨30, .phase⟩, ⟨31, .phase⟩, ⟨32, .phase⟩, ⟨33, .phase⟩, ⟨34, .phase⟩, ⟨35, .phase⟩, ⟨36, .phase⟩, ⟨37, .phase⟩, ⟨38, .phase⟩, ⟨39, .phase⟩, ⟨40, .phase⟩, ⟨41, .phase⟩, ⟨42, .phase⟩, ⟨43, .phase⟩, ⟨44, .phase⟩, ⟨45, .phase⟩, ⟨46, .phase⟩, ⟨47, .phase⟩, ⟨48, .phase⟩], none⟩ ?_
              simp only [Act.put, z1', z2', z3']
              refine wpAnyH_done (by kernel_rfl) ?_ _
              go_wp2
              go_ret
              exact ⟨rfl, below_on HBW.out HB9.out⟩
            have hB2 : r.B.fl = false := by simpa using hB1
            obtain ⟨g1, g2, g3, g4⟩ : r.A.p.length = r.A.a ∧ r.B.p.length = r.B.a ∧ r.k0 = r.u0 ∧ r.k1 = r.u1 := by
              rcases hfin with e | e | e
              · exact absurd e hA1
              · exact absurd e hB1
              · exact e
            obtain rfl : xh = false := hxh.trans hA2
            obtain rfl : yh = false := hyh.trans hB2
            obtain rfl : xw = 0 := hxw g1
            obtain rfl : yw = 0 := hyw g2
            rw [g3, g4] at HU
            clear hxh hxw hyh hyw hfin hA1 hA2 hB1 hB2 g1 g2 g3 g4
            refine wp_region_held_drew (S := (fun w' => Below W2.drew.heap.size W2.drew w')) (by kernel_rfl) (Below.refl _ _) (fun hHeld => ?_)
            refine' tk 0 ⟨some 126, .fieldAddr 35 (.tmp 12) 12, 0, "law.go:253", #[], none⟩ ?_
            simp only [Act.put, z1', z2', z3']
            refine' tv 1 ⟨some 127, .load 4 (.tmp 126), 4, "law.go:253", #[⟨0, .data⟩], none⟩ ?hy34 ?hr34
            case hy34 => (intro _ hSw; (try dsimp only at hSw); obtain ⟨⟨z0, z1, z2, z3, z4, z5, z6, z7, z8, z9, z10, z11, z12⟩, -⟩ := cells13 (stays HX0.out hSw); go_simp <;> with_reducible rfl)
            simp only [Act.put, z1', z2', z3']
            refine' tk 2 ⟨some 128, .move (.tmp 127), 4, "law.go:253", #[⟨1, .data⟩], none⟩ ?_
            simp only [Act.put, z1', z2', z3']
            refine' tk 3 ⟨some 129, .fieldAddr 35 (.tmp 13) 12, 0, "law.go:253", #[⟨2, .guard⟩], some (2, false)⟩ ?_
            simp only [Act.put, z1', z2', z3']
            refine' tv 4 ⟨some 130, .load 4 (.tmp 129), 4, "law.go:253", #[⟨3, .data⟩, ⟨2, .guard⟩], some (2, false)⟩ ?hy37 ?hr37
            case hy37 => (intro _ hSw; (try dsimp only at hSw); obtain ⟨⟨z0, z1, z2, z3, z4, z5, z6, z7, z8, z9, z10, z11, z12⟩, -⟩ := cells13 (stays HX1.out hSw); go_simp <;> with_reducible rfl)
            simp only [Act.put, z1', z2', z3']
            refine' tk 5 ⟨some 131, .pick (.tmp 128) (.const (.bool true)) (.tmp 130), 4, "law.go:253", #[⟨2, .data⟩, ⟨4, .data⟩], none⟩ ?_
            simp only [Act.put, z1', z2', z3']
            refine' tk 6 ⟨some 132, .move (.tmp 131), 4, "law.go:253", #[⟨5, .data⟩, ⟨2, .chain⟩], none⟩ ?_
            simp only [Act.put, z1', z2', z3']
            refine' tk 7 ⟨some 133, .fieldAddr 35 (.tmp 12) 3, 0, "law.go:253", #[⟨6, .guard⟩], some (6, false)⟩ ?_
            simp only [Act.put, z1', z2', z3']
            refine' tv 8 ⟨some 134, .load 3 (.tmp 133), 3, "law.go:253", #[⟨7, .data⟩, ⟨6, .guard⟩], some (6, false)⟩ ?hy41 ?hr41
            case hy41 => (intro _ hSw; (try dsimp only at hSw); obtain ⟨⟨z0, z1, z2, z3, z4, z5, z6, z7, z8, z9, z10, z11, z12⟩, -⟩ := cells13 (stays HX0.out hSw); go_simp <;> with_reducible rfl)
            simp only [Act.put, z1', z2', z3']
            refine' tk 9 ⟨some 135, .binOp .eql 3 (.tmp 134) (.const (.int .i64 0)) 3, 4, "law.go:253", #[⟨8, .data⟩, ⟨6, .guard⟩], some (6, false)⟩ ?_
            simp only [Act.put, z1', z2', z3']
            refine' tk 10 ⟨some 136, .move (.tmp 135), 4, "law.go:253", #[⟨9, .data⟩, ⟨6, .chain⟩, ⟨6, .guard⟩], some (6, false)⟩ ?_
            simp only [Act.put, z1', z2', z3']
            refine' tk 11 ⟨some 137, .fieldAddr 35 (.tmp 13) 3, 0, "law.go:253", #[⟨10, .guard⟩], some (10, true)⟩ ?_
            simp only [Act.put, z1', z2', z3']
            refine' tv 12 ⟨some 138, .load 3 (.tmp 137), 3, "law.go:253", #[⟨11, .data⟩, ⟨10, .guard⟩], some (10, true)⟩ ?hy45 ?hr45
            case hy45 => (intro _ hSw; (try dsimp only at hSw); obtain ⟨⟨z0, z1, z2, z3, z4, z5, z6, z7, z8, z9, z10, z11, z12⟩, -⟩ := cells13 (stays HX1.out hSw); go_simp <;> with_reducible rfl)
            simp only [Act.put, z1', z2', z3']
            refine' tk 13 ⟨some 139, .binOp .eql 3 (.tmp 138) (.const (.int .i64 0)) 3, 4, "law.go:253", #[⟨12, .data⟩, ⟨10, .guard⟩], some (10, true)⟩ ?_
            simp only [Act.put, z1', z2', z3']
            refine' tk 14 ⟨some 140, .pick (.tmp 136) (.tmp 139) (.const (.bool false)), 4, "law.go:253", #[⟨10, .data⟩, ⟨13, .data⟩, ⟨6, .guard⟩], some (6, false)⟩ ?_
            simp only [Act.put, z1', z2', z3']
            refine' tk 15 ⟨some 141, .move (.tmp 140), 4, "law.go:253", #[⟨14, .data⟩, ⟨10, .chain⟩, ⟨6, .guard⟩], some (6, false)⟩ ?_
            simp only [Act.put, z1', z2', z3']
            refine' tk 16 ⟨some 142, .move (.tmp 9), 40, "law.go:253", #[⟨15, .guard⟩], some (15, true)⟩ ?_
            simp only [Act.put, z1', z2', z3']
            refine' tk 17 ⟨some 143, .nilCheck (.tmp 142), 0, "law.go:253", #[⟨16, .data⟩, ⟨15, .guard⟩], some (15, true)⟩ ?_
            simp only [Act.put, z1', z2', z3']
            refine' tk 18 ⟨some 144, .fieldAddr 46 (.tmp 143) 3, 0, "law.go:253", #[⟨17, .data⟩, ⟨15, .guard⟩], some (15, true)⟩ ?_
            simp only [Act.put, z1', z2', z3']
            refine' tv 19 ⟨some 145, .load 44 (.tmp 144), 44, "law.go:253", #[⟨18, .data⟩, ⟨15, .guard⟩], some (15, true)⟩ ?hy52 ?hr52
            case hy52 => (intro _ hSw; (try dsimp only at hSw); have hc := cell_of (i := 3) (v := Aq.two b.bk) (stays HU.out.1 hSw) rfl; go_simp <;> with_reducible rfl)
            simp only [Act.put, z1', z2', z3']
            refine' tk 20 ⟨some 146, .indexAddr 44 (.tmp 145) (.const (.int .i64 0)), 0, "law.go:253", #[⟨19, .data⟩, ⟨15, .guard⟩], some (15, true)⟩ ?_
            simp only [Act.put, z1', z2', z3']
            refine' tv 21 ⟨some 147, .load 3 (.tmp 146), 3, "law.go:253", #[⟨20, .data⟩, ⟨15, .guard⟩], some (15, true)⟩ ?hy54 ?hr54
            case hy54 => (intro _ hSw; (try dsimp only at hSw); have hc := cell_of (i := 0) (v := nm r.u0) (stays HU.out.2.2 hSw) rfl; go_simp <;> with_reducible rfl)
            simp only [Act.put, z1', z2', z3']
            refine' tk 22 ⟨some 148, .move (.tmp 9), 40, "law.go:253", #[⟨15, .guard⟩], some (15, true)⟩ ?_
            simp only [Act.put, z1', z2', z3']
            refine' tk 23 ⟨some 149, .nilCheck (.tmp 148), 0, "law.go:253", #[⟨22, .data⟩, ⟨15, .guard⟩], some (15, true)⟩ ?_
            simp only [Act.put, z1', z2', z3']
            refine' tk 24 ⟨some 150, .fieldAddr 46 (.tmp 149) 2, 0, "law.go:253", #[⟨23, .data⟩, ⟨15, .guard⟩], some (15, true)⟩ ?_
            simp only [Act.put, z1', z2', z3']
            refine' tv 25 ⟨some 151, .load 44 (.tmp 150), 44, "law.go:253", #[⟨24, .data⟩, ⟨15, .guard⟩], some (15, true)⟩ ?hy58 ?hr58
            case hy58 => (intro _ hSw; (try dsimp only at hSw); have hc := cell_of (i := 2) (v := Aq.two b.bu) (stays HU.out.1 hSw) rfl; go_simp <;> with_reducible rfl)
            simp only [Act.put, z1', z2', z3']
            refine' tk 26 ⟨some 152, .indexAddr 44 (.tmp 151) (.const (.int .i64 0)), 0, "law.go:253", #[⟨25, .data⟩, ⟨15, .guard⟩], some (15, true)⟩ ?_
            simp only [Act.put, z1', z2', z3']
            refine' tv 27 ⟨some 153, .load 3 (.tmp 152), 3, "law.go:253", #[⟨26, .data⟩, ⟨15, .guard⟩], some (15, true)⟩ ?hy60 ?hr60
            case hy60 => (intro _ hSw; (try dsimp only at hSw); have hc := cell_of (i := 0) (v := nm r.u0) (stays HU.out.2.1 hSw) rfl; go_simp <;> with_reducible rfl)
            simp only [Act.put, z1', z2', z3']
            refine' tk 28 ⟨some 154, .binOp .eql 3 (.tmp 147) (.tmp 153) 3, 4, "law.go:253", #[⟨21, .data⟩, ⟨27, .data⟩, ⟨15, .guard⟩], some (15, true)⟩ ?_
            simp only [Act.put, z1', z2', z3']
            refine' tk 29 ⟨some 155, .pick (.tmp 141) (.tmp 154) (.const (.bool false)), 4, "law.go:253", #[⟨15, .data⟩, ⟨28, .data⟩, ⟨6, .guard⟩], some (6, false)⟩ ?_
            simp only [Act.put, z1', z2', z3']
            refine' tk 30 ⟨some 156, .move (.tmp 155), 4, "law.go:253", #[⟨29, .data⟩, ⟨15, .chain⟩, ⟨6, .guard⟩], some (6, false)⟩ ?_
            simp only [Act.put, z1', z2', z3']
            refine' tk 31 ⟨some 157, .move (.tmp 9), 40, "law.go:253", #[⟨30, .guard⟩], some (30, true)⟩ ?_
            simp only [Act.put, z1', z2', z3']
            refine' tk 32 ⟨some 158, .nilCheck (.tmp 157), 0, "law.go:253", #[⟨31, .data⟩, ⟨30, .guard⟩], some (30, true)⟩ ?_
            simp only [Act.put, z1', z2', z3']
            refine' tk 33 ⟨some 159, .fieldAddr 46 (.tmp 158) 3, 0, "law.go:253", #[⟨32, .data⟩, ⟨30, .guard⟩], some (30, true)⟩ ?_
            simp only [Act.put, z1', z2', z3']
            refine' tv 34 ⟨some 160, .load 44 (.tmp 159), 44, "law.go:253", #[⟨33, .data⟩, ⟨30, .guard⟩], some (30, true)⟩ ?hy67 ?hr67
            case hy67 => (intro _ hSw; (try dsimp only at hSw); have hc := cell_of (i := 3) (v := Aq.two b.bk) (stays HU.out.1 hSw) rfl; go_simp <;> with_reducible rfl)
            simp only [Act.put, z1', z2', z3']
            refine' tk 35 ⟨some 161, .indexAddr 44 (.tmp 160) (.const (.int .i64 1)), 0, "law.go:253", #[⟨34, .data⟩, ⟨30, .guard⟩], some (30, true)⟩ ?_
            simp only [Act.put, z1', z2', z3']
            refine' tv 36 ⟨some 162, .load 3 (.tmp 161), 3, "law.go:253", #[⟨35, .data⟩, ⟨30, .guard⟩], some (30, true)⟩ ?hy69 ?hr69
            case hy69 => (intro _ hSw; (try dsimp only at hSw); have hc := cell_of (i := 1) (v := nm r.u1) (stays HU.out.2.2 hSw) rfl; go_simp <;> with_reducible rfl)
            simp only [Act.put, z1', z2', z3']
            refine' tk 37 ⟨some 163, .move (.tmp 9), 40, "law.go:253", #[⟨30, .guard⟩], some (30, true)⟩ ?_
            simp only [Act.put, z1', z2', z3']
            refine' tk 38 ⟨some 164, .nilCheck (.tmp 163), 0, "law.go:253", #[⟨37, .data⟩, ⟨30, .guard⟩], some (30, true)⟩ ?_
            simp only [Act.put, z1', z2', z3']
            refine' tk 39 ⟨some 165, .fieldAddr 46 (.tmp 164) 2, 0, "law.go:253", #[⟨38, .data⟩, ⟨30, .guard⟩], some (30, true)⟩ ?_
            simp only [Act.put, z1', z2', z3']
            refine' tv 40 ⟨some 166, .load 44 (.tmp 165), 44, "law.go:253", #[⟨39, .data⟩, ⟨30, .guard⟩], some (30, true)⟩ ?hy73 ?hr73
            case hy73 => (intro _ hSw; (try dsimp only at hSw); have hc := cell_of (i := 2) (v := Aq.two b.bu) (stays HU.out.1 hSw) rfl; go_simp <;> with_reducible rfl)
            simp only [Act.put, z1', z2', z3']
            refine' tk 41 ⟨some 167, .indexAddr 44 (.tmp 166) (.const (.int .i64 1)), 0, "law.go:253", #[⟨40, .data⟩, ⟨30, .guard⟩], some (30, true)⟩ ?_
            simp only [Act.put, z1', z2', z3']
            refine' tv 42 ⟨some 168, .load 3 (.tmp 167), 3, "law.go:253", #[⟨41, .data⟩, ⟨30, .guard⟩], some (30, true)⟩ ?hy75 ?hr75
            case hy75 => (intro _ hSw; (try dsimp only at hSw); have hc := cell_of (i := 1) (v := nm r.u1) (stays HU.out.2.1 hSw) rfl; go_simp <;> with_reducible rfl)
            simp only [Act.put, z1', z2', z3']
            refine' tk 43 ⟨some 169, .binOp .eql 3 (.tmp 162) (.tmp 168) 3, 4, "law.go:253", #[⟨36, .data⟩, ⟨42, .data⟩, ⟨30, .guard⟩], some (30, true)⟩ ?_
            simp only [Act.put, z1', z2', z3']
            refine' tk 44 ⟨some 170, .pick (.tmp 156) (.tmp 169) (.const (.bool false)), 4, "law.go:253", #[⟨30, .data⟩, ⟨43, .data⟩, ⟨6, .guard⟩], some (6, false)⟩ ?_
            simp only [Act.put, z1', z2', z3']
            refine' tk 45 ⟨some 171, .pick (.tmp 132) (.const (.bool true)) (.tmp 170), 4, "law.go:253", #[⟨6, .data⟩, ⟨44, .data⟩], none⟩ ?_
            simp only [Act.put, z1', z2', z3']
            refine' tk 46 ⟨some 172, .move (.tmp 171), 4, "law.go:253", #[⟨45, .data⟩, ⟨30, .chain⟩], none⟩ ?_
            simp only [Act.put, z1', z2', z3']
            refine ry [47] ?_
            refine AllReadyH.cons rfl (fun K hK => ?_) AllReadyH.nil
            go_simp
            (with_reducible refine (cw.out _).mono ?_)
            rintro e wc ⟨rfl, hb⟩
            go_wp2_with fail
            have HB9 := Lib.hid (below_on hHeld hb)
            refine hK.out _ _ HB9.out (fun hNext => ?_)
            clear hK K hHeld hb
            have hHeld := hNext
            clear hNext
            (try simp only [Act.put, z1', z2', z3'])
            refine' tk 48 ⟨some 174, .pick (.tmp 172) (.tmp 173) (.const (.bool false)), 4, "law.go:253", #[⟨46, .data⟩, ⟨47, .data⟩], none⟩ ?_
            simp only [Act.put, z1', z2', z3']
            refine' tk 49 ⟨some 8, .assign (.tmp 174), 4, "law.go:253", #[⟨48, .data⟩, ⟨47, .chain⟩, ⟨0, .phase⟩, ⟨1, .phase⟩, ⟨2, .phase⟩, ⟨3, .phase⟩, ⟨4, .phase⟩, ⟨5, .phase⟩, ⟨6, .phase⟩, ⟨7, .phase⟩, ⟨8, .phase⟩, ⟨9, .phase⟩, ⟨10, .phase⟩, ⟨11, .phase⟩, ⟨12, .phase⟩, ⟨13, .phase⟩, ⟨14, .phase⟩, ⟨15, .phase⟩, ⟨16, .phase⟩, ⟨17, .phase⟩, ⟨18, .phase⟩, ⟨19, .phase⟩, ⟨20, .phase⟩, ⟨21, .phase⟩, ⟨22, .phase⟩, ⟨23, .phase⟩, ⟨24, .phase⟩, ⟨25, .phase⟩, ⟨26, .phase⟩, ⟨27, .phase⟩, ⟨28, .phase⟩, ⟨29, .phase⟩, ⟨30, .phase⟩, ⟨31, .phase⟩, ⟨32, .phase⟩, ⟨33, .phase⟩, ⟨34, .phase⟩, ⟨35, .phase⟩, ⟨36, .phase⟩, ⟨37, .phase⟩, ⟨38, .phase⟩, ⟨39, .phase⟩, ⟨40, .phase⟩, ⟨41, .phase⟩, ⟨42, .phase⟩, ⟨43, .phase⟩, ⟨44, .phase⟩, ⟨45, .phase⟩, ⟨46, .phase⟩, ⟨47, .phase⟩, ⟨48, .phase⟩], none⟩ ?_
            simp only [Act.put, z1', z2', z3']
            refine wpAnyH_done (by kernel_rfl) ?_ _
            go_wp2
            go_ret
            exact ⟨rfl, below_on HBW.out HB9.out⟩
end Go.Proofs.Ytkoaplmlabagnaa.Aq
